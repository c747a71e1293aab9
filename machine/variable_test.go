package machine_test

import "testing"

// P16.1: a variable without a value throws when it is read and when it is assigned, in each scope.
func TestAheadOfValue(t *testing.T) {
	gives(t,
		throws("f(); let x = 1; function f() { x; }", "ReferenceError: x", ""),
		throws("f(); let x = 1; function f() { x = 2; }", "ReferenceError: x", ""),
		throws("f(); let x = 1; function f() { x += 2; }", "ReferenceError: x", ""),
		throws("f(); const longName = 1; function f() { return typeof longName; }", "ReferenceError: longName", ""),
		throws("f(); class C {} function f() { return C; }", "ReferenceError: C", ""),
		throws("f(); class C {} function f() { class D extends C {} }", "ReferenceError: C", ""),
		throws("f(); class C {} function f() { new C(); }", "ReferenceError: C", ""),
		throws("function f() { g(); let x = 1; function g() { x; } } f();", "ReferenceError: x", ""),
		throws("{ g(); let x = 1; function g() { x; } }", "ReferenceError: x", ""),
		throws("const f = () => { g(); let x = 1; function g() { return x; } }; f();", "ReferenceError: x", ""),
		throws("class A { m() { (() => x)(); let x = 1; } } new A().m();", "ReferenceError: x", ""),
		throws("class A { constructor() { (() => { x = 1; })(); let x = 2; } } new A();", "ReferenceError: x", ""),
		throws("class A { v = x; } new A(); let x = 1;", "ReferenceError: x", ""),
		throws("let x = (() => x)();", "ReferenceError: x", ""),
		throws("for (let i = (() => i)(); ; ) {}", "ReferenceError: i", ""),
		throws("for (let i = (() => { i = 1; })(); ; ) {}", "ReferenceError: i", ""),
		throws("class A { v = new A(); } f(); function f() { return B; } class B {}", "ReferenceError: B", ""),
		done("try { f(); } catch (e) { print(typeof e, e); } let x = 1; print(f()); function f() { return x; }", "string ReferenceError: x\n1"),
	)
}

// P16.1: to assign to what has no value throws behind the second kid, to read it ahead of that.
func TestWhenItThrows(t *testing.T) {
	gives(t,
		throws(tracing+"f(); let x = 1; function f() { x = t(2); }", "ReferenceError: x", "2"),
		throws(tracing+"f(); let x = 1; function f() { x += t(2); }", "ReferenceError: x", ""),
		throws(tracing+"f(); let x = 1; function f() { x = null.a; }", "TypeError: no members", ""),
		done(tracing+"g(); let x = 1; function g() { try { x = t(2); } catch (e) { print(e); } } print(x);", "2\nReferenceError: x\n1"),
		done("let g = () => { x = 5; }; let x = 1; g(); print(x);", "5"),
	)
}

// P16.1: Funcs have their functions from the beginning of their scope on; they are made in order.
func TestFuncs(t *testing.T) {
	gives(t,
		done("print(f(), g()); function f() { return g() + 1; } function g() { return 1; }", "2 1"),
		done("print(typeof f); { print(f()); function f() { return 2; } } function f() { return 1; } print(f());", "function\n2\n1"),
		done("function f() { return g; function g() { return f; } } print(f() === f(), f()() === f);", "false true"),
		done("const l = []; for (const x of [1, 2]) { l.push(f); function f() { return x; } } print(l[0](), l[1](), l[0] === l[1]);", "1 2 false"),
	)
}

// P16.1: each entering of a scope lays variables anew; a function keeps the scopes in which it was made.
func TestScopes(t *testing.T) {
	gives(t,
		done("let x = 1; { let x = 2; { let x = 3; print(x); } print(x); } print(x);", "3\n2\n1"),
		done("function make() { let n = 0; return () => n += 1; } const a = make(); const b = make(); print(a(), a(), b(), a());", "1 2 1 3"),
		done("function f(n) { let x = n; if (n > 0) { f(n - 1); } print(x, n); } f(2);", "0 0\n1 1\n2 2"),
		done("const l = []; for (let i = 0; i < 3; i += 1) { l.push(() => i); } print(l[0](), l[1](), l[2]());", "3 3 3"),
		done("const l = []; for (let i = 0; i < 2; i += 1) { let j = i; l.push(() => j += 10); } print(l[0](), l[1](), l[0]());", "10 11 20"),
		done("const l = []; for (let x of [1, 2]) { l.push(() => x += 1); } print(l[0](), l[1](), l[0]());", "2 3 3"),
		done("const l = []; for (const x of \"ab\") { l.push(() => x); } print(l[0](), l[1]());", "a b"),
		done("const l = []; let n = 0; while (n < 2) { const m = n; l.push(() => m); n += 1; } print(l[0](), l[1]());", "0 1"),
		done("const l = []; for (const x of [1, 2]) { try { throw x; } catch (e) { l.push(() => e); } } print(l[0](), l[1]());", "1 2"),
		done("let x = 1; function f() { return x; } { let x = 2; print(f(), x); } x = 3; print(f());", "1 2\n3"),
		done("let e = 1; try { throw 2; } catch (e) { { let e = 3; print(e); } print(e); } print(e);", "3\n2\n1"),
		done("function f(a) { { let a = 2; print(a); } return () => a; } print(f(1)());", "2\n1"),
		done("for (let i = 0; i < 1; i += 1) { let i = 5; print(i); }", "5"),
		done("let print_ = print; { let print = (x) => x + 1; print_(print(1)); } print(2); const input = 7; print(input);", "2\n2\n7"),
		done("function f(print) { return print; } print(f(1));", "1"),
	)
}

// P16.1: scopes far out, through functions, loops and classes between, some of which have no names.
func TestFarOut(t *testing.T) {
	gives(t,
		done("let a = 1; { { let b = 2; function f(c) { { for (const d of [4]) { { try { throw 5; } catch (e) { const g = (h) => { let i = 7; return [a, b, c, d, e, h, i]; }; print(g(6)); a = 0; b += 1; c += 1; } print(a, b, c, d); } } } } f(3); print(a, b); } }", "[1, 2, 3, 4, 5, 6, 7]\n0 3 4 4\n0 3"),
		done("let x = 0; function f() { { { x += 1; } } class A { v = () => { x += 10; return this; }; m() { for (let i = 0; i < 1; i += 1) { x += 100; } return () => x; } } return new A(); } const a = f(); a.v().m(); print(a.m()(), x);", "211 211"),
		done("const l = []; { let a = 1; { let b = 2; { let c = 3; { let d = 4; { let e = 5; { let g = 6; { let h = 7; { let i = 8; { let j = 9; l.push(() => [a += 1, b, c, d, e, g, h, i, j]); } } } } } } l.push(() => a + b); } } } print(l[0](), l[1]());", "[2, 2, 3, 4, 5, 6, 7, 8, 9] 4"),
	)
}
