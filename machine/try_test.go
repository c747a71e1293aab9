package machine_test

import (
	"strings"
	"testing"

	"shuck/api"
)

// P16.1: a Try with a Catch, with a last Block, with both.
func TestTry(t *testing.T) {
	gives(t,
		done("try { print(1); } catch (e) { print(2); } print(3);", "1\n3"),
		done("try { print(1); throw 5; print(2); } catch (e) { print(e); } print(3);", "1\n5\n3"),
		done("try { print(1); } finally { print(2); } print(3);", "1\n2\n3"),
		throws("try { print(1); throw 5; } finally { print(2); } print(3);", "5", "1\n2"),
		done("try { print(1); } catch (e) { print(2); } finally { print(3); } print(4);", "1\n3\n4"),
		done("try { throw 5; } catch (e) { print(e); } finally { print(3); } print(4);", "5\n3\n4"),
		throws("try { throw 5; } catch (e) { throw e + 1; } finally { print(3); } print(4);", "6", "3"),
		throws("try { throw 5; } catch (e) { throw e + 1; } print(4);", "6", ""),
		throws("try { throw 5; } catch (e) { throw e + 1; } finally { throw 7; }", "7", ""),
		throws("try { throw 5; } finally { throw 7; }", "7", ""),
		throws("try { 1; } finally { throw 7; }", "7", ""),
		throws("try { 1; } catch (e) { print(e); } finally { throw 7; }", "7", ""),
	)
}

// P16.1: Trys within one another, in each of their Blocks.
func TestTryWithin(t *testing.T) {
	gives(t,
		done("try { try { throw 1; } catch (e) { throw e + 1; } } catch (e) { print(e); }", "2"),
		done("try { try { throw 1; } finally { print(\"f\"); } } catch (e) { print(e); } finally { print(\"g\"); }", "f\n1\ng"),
		done("try { try { throw 1; } finally { throw 2; } } catch (e) { print(e); }", "2"),
		done("try { throw 1; } catch (e) { try { throw 2; } catch (f) { print(e, f); } } finally { try { throw 3; } catch (g) { print(g); } }", "1 2\n3"),
		throws("try { throw 1; } finally { try { throw 2; } catch (e) { print(e); } }", "1", "2"),
		throws("try { throw 1; } catch (e) { try { throw 2; } finally { print(\"a\"); } } finally { print(\"b\"); }", "2", "a\nb"),
		done("try { try { try { throw 1; } finally { print(1); } } finally { print(2); } } catch (e) { print(\"e\", e); }", "1\n2\ne 1"),
		done("function f() { throw 1; } function g() { try { f(); } finally { print(\"g\"); } } function h() { try { g(); } catch (e) { return e + 1; } } print(h());", "g\n2"),
	)
}

// P16.1: the last Block counts if it ends early; else what was ahead of it does: a Return, a Break, a Continue, what is thrown, a value, what was caught.
func TestLastBlock(t *testing.T) {
	// What is told: l of each round's last Block; R what f returned, T what it threw, E how often it came behind the Try and behind the loop.
	ahead := map[string]string{
		"return 1;": "l\nR1", "break;": "l\nE1", "continue;": "l\nl\nE1", "throw 2;": "l\nT2", "3;": "l\nl\nE3", "null.a; } catch (e) { 4;": "l\nl\nE3", "throw 5; } catch (e) { return e;": "l\nR5", "throw 5; } catch (e) { throw e + 1;": "l\nT6", "throw 5; } catch (e) { break;": "l\nE1", "throw 5; } catch (e) { continue;": "l\nl\nE1",
	}
	behind := map[string]string{
		"return 9;": "l\nR9", "return;": "l\nRundefined", "break;": "l\nE1", "continue;": "l\nl\nE1", "throw 8;": "l\nT8", "7;": "",
	}
	for first, out := range ahead {
		for last, counts := range behind {
			if counts == "" {
				counts = out
			}
			gives(t, done("let n = 0; function f() { for (const x of [1, 2]) { try { "+first+" } finally { print(\"l\"); "+last+" } n += 1; } n += 1; return \"E\" + n; } try { const r = f(); print(typeof r === \"string\" ? r : \"R\" + r); } catch (e) { print(\"T\" + e); }", counts))
		}
	}
}

// P16.1: what leaves a Try leaves loops and functions about it too, through each last Block.
func TestLeaving(t *testing.T) {
	gives(t,
		done("function f() { for (const x of [1, 2]) { try { for (const y of [3, 4]) { try { if (y === 4) { return [x, y]; } continue; } finally { print(x, y); } } } finally { print(\"o\", x); } } } print(f());", "1 3\n1 4\no 1\n[1, 4]"),
		done("for (let i = 0; i < 3; i += 1) { try { if (i === 1) { continue; } if (i === 2) { break; } print(i); } finally { print(\"f\", i); } }", "0\nf 0\nf 1\nf 2"),
		done("function f() { while (true) { try { return 1; } finally { break; } } return 2; } print(f());", "2"),
		done("function f() { for (const x of [1, 2, 3]) { try { return x; } finally { if (x < 3) { continue; } } } } print(f());", "3"),
		done("function f() { try { return 1; } finally { return 2; } } print(f());", "2"),
		done("function f() { try { try { return 1; } finally { throw 2; } } catch (e) { return [e]; } finally { print(\"f\"); } } print(f());", "f\n[2]"),
		done("let x = 1; function f() { try { return x; } finally { x = 2; } } print(f(), x);", "1 2"),
		done("const f = () => { try { throw 1; } catch (e) { return e; } finally { print(0); } }; print(f());", "0\n1"),
		done("class A { constructor(x) { try { if (x) { return; } this.a = 1; } finally { this.b = 2; } this.c = 3; } m() { try { return 1; } finally { this.d = 4; } } v = (() => { try { throw 5; } catch (e) { return e; } })(); } print(new A(0), new A(1), new A(1).m());", "{v: 5, a: 1, b: 2, c: 3} {v: 5, b: 2} 1"),
		done("function f() { let i = 0; while (true) { try { try { i += 1; if (i < 3) { continue; } break; } finally { print(i); } } finally { print(\"-\"); } } return i; } print(f());", "1\n-\n2\n-\n3\n-\n3"),
	)
}

// P16.1: a Catch goes on where the Try stands: in its scope, with its this, however deep it was thrown.
func TestCatchGoesBack(t *testing.T) {
	gives(t,
		done("let x = 1; function f(x) { { let x = 3; throw x; } } try { let x = 4; f(2); } catch (e) { print(x, e); } print(x);", "1 3\n1"),
		done("class A { n = 1; m() { try { new B().k(); } catch (e) { return [this.n, e, super_(this)]; } } } class B { n = 2; k() { (() => { throw this.n; })(); } } function super_(o) { return o.n; } print(new A().m());", "[1, 2, 1]"),
		done("print(1 + f(), [2, f(), {a: f()}]); function f() { try { return g([1, 2, h(3)]); } catch (e) { return e; } } function g(l) { return l; } function h(x) { throw x * 2; }", "7 [2, 6, {a: 6}]"),
		done("for (const x of [1, 2]) { let y = x * 10; try { for (const z of [3]) { let y = 0; throw z; } } catch (e) { print(x, y, e); } }", "1 10 3\n2 20 3"),
		done("class A { v = 1; constructor() { throw this; } } class B extends A { w = 2; } try { new B(); } catch (e) { print(e); }", "{v: 1}"),
		done("class A { v = (() => { throw 7; })(); } function f() { try { return new A(); } catch (e) { return e; } } print([f(), f()]);", "[7, 7]"),
	)
}

// P16.1: what is thrown that no Try takes: its Show is told, of each kind of value.
func TestThrown(t *testing.T) {
	gives(t,
		throws("throw 1;", "1", ""), throws("throw -1;", "-1", ""), throws(`throw "a\nb";`, "a\nb", ""), throws(`throw "";`, "", ""), throws("throw null;", "null", ""), throws("throw undefined;", "undefined", ""), throws("throw true;", "true", ""), throws("throw false;", "false", ""),
		throws("throw {};", "{}", ""), throws(`throw {a: "b", c: [1]};`, `{a: "b", c: [1]}`, ""), throws("throw [1, [2, [3, [4]]]];", "[1, [2, [3, ...]]]", ""), throws("throw print;", "function", ""), throws("throw () => 1;", "function", ""), throws("class A {} throw A;", "class", ""), throws("class A { v = 1; } throw new A();", "{v: 1}", ""),
		throws("const o = {}; o.o = o; throw o;", "{o: {o: {o: ...}}}", ""),
		throws("print(1); throw input();", "p", "1"),
		throws("const o = {a: 1}; try { throw o; } finally { o.a = 2; }", "{a: 2}", ""),
	)
}

// P16.1: no Try sees an end of the run.
func TestEndsAreNotSeen(t *testing.T) {
	for what, end := range map[string]int{
		"1 % 0;": api.EndInexact, "f();": api.EndDeep, "while (true) {}": api.EndFuel, "let s = \"ab\"; while (true) { s += s; }": api.EndHeap, "let s = \"ab\"; while (true) { s = `${s}${s}`; }": api.EndHeap, "const l = []; while (true) { l.push(1); }": api.EndHeap, "const o = {}; let n = \"a\"; while (true) { o[n] = 1; n += \"a\"; }": api.EndHeap, "const l = []; while (true) { l[l.length] = 1; }": api.EndHeap, "while (true) { ({}); }": api.EndHeap, "while (true) { () => 1; }": api.EndHeap, "while (true) { class A {} }": api.EndHeap, "while (true) { function g() {} }": api.EndHeap,
	} {
		for _, s := range []string{
			"try { X } catch (e) { print(e); }", "try { X } finally { print(1); }", "try { X } catch (e) { print(e); } finally { print(1); }", "try { throw 1; } catch (e) { X } finally { print(1); }", "try { ; } finally { X }", "function h() { try { X } finally { return 1; } } h();", "while (true) { try { X } finally { break; } }", "class A { constructor() { try { X } finally { return; } } } new A();",
		} {
			s = "function f() { f(); } " + strings.ReplaceAll(s, "X", what)
			if got := agrees(t, s, read(t, s), nil, 3000, 200); got.End != end || len(got.Outputs) > 0 || got.Thrown != "" {
				t.Errorf("%s: %+v", s, got.short())
			}
		}
	}
}
