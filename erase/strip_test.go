package erase_test

import "testing"

// P13.1: what chapter 5 strips is stripped: each kind that goes, each place of a type, each mark.
func TestStripped(t *testing.T) {
	gives(t,
		// An As, a Bang: one, one within the other, in every place of an expression.
		"let x = 1; x as A;", "let x = 1; x;",
		"let x = 1; x!;", "let x = 1; x;",
		"let y = 1; let x: A = (y as B)!;", "let y = 1; let x = y;",
		"let x = 1; ((x! as A)! as B as C)!!;", "let x = 1; x;",
		"let x = 1; (x as A).y!.z![x!]!(x as B);", "let x = 1; x.y.z[x](x);",
		"let a = 1; (a as A).b = a!; a = a!; a! [a!] += a as B;", "let a = 1; a.b = a; a = a; a[a] += a;",
		"let a = 1; -(a as A) + !a! * (typeof a!); a! ? a! : a as C; a! in a!;", "let a = 1; -a + !a * (typeof a); a ? a : a; a in a;",
		"let b = 1; `a${b as B}c${b!}e`; [b!, {b: b!, c: b as C}];", "let b = 1; `a${b}c${b}e`; [b, {b: b, c: b}];",
		"((x) => x!)!; (x => { return x as A; }) as B;", "((x) => x); x => { return x; };",
		"let a = 1; if (a!) {} else if (a!) {} while (a!) {} for (let i = a!; a!; a!) { a!; } for (const x of a!) {} throw a!;", "let a = 1; if (a) {} else if (a) {} while (a) {} for (let i = a; a; a) { a; } for (const x of a) {} throw a;",
		"function f() { return f!; } try { f!; } catch (e) { e!; } finally { f!; } new f(f!);", "function f() { return f; } try { f; } catch (e) { e; } finally { f; } new f(f);",
		"class B {} class C extends B { x = this!; constructor(a) { super(a!); super.m(a!); this!.c!; } }", "class B {} class C extends B { x = this; constructor(a) { super(a); super.m(a); this.c; } }",
		// Interface, Alias, Export of one of these; in a Program, in Blocks, in a Namespace.
		"interface I {}", "",
		"type T = 1;", "",
		"interface I<A> extends J, K<A> { a: A; m(b?: B): C } print();", "print();",
		"print; type T<A> = A | B[]; input; interface J {} type U = 1;", "print; input;",
		"{ interface I {} print; type T = 1; { interface J {} } }", "{ print; {} }",
		"function f() { type T = 1; return 1; } let g = () => { interface I {} };", "function f() { return 1; } let g = () => {};",
		"class C { m() { type T = 1; } constructor() { type T = 1; } }", "class C { m() {} constructor() {} }",
		"if (1) { type T = 1; } else { type T = 1; } while (1) { type T = 1; } for (;;) { type T = 1; } for (let x of 1) { type T = 1; }", "if (1) {} else {} while (1) {} for (;;) {} for (let x of 1) {}",
		"try { type T = 1; } catch (e) { type T = 1; } finally { type T = 1; }", "try {} catch (e) {} finally {}",
		// Lists of TypeParams, of types, of a Class's TypeNames; places of types.
		"function f<A, B>(a: A, b?: B): C {}", "function f(a, b) {}",
		"let f = <A>(a: A, b?) => a;", "let f = (a, b) => a;",
		"function f() {} f<A>((x?: B) => x as C); f<A, B<C>, D[], {e: F}, (g: H) => I, 1 | 'j' | -1>(1);", "function f() {} f((x) => x); f(1);",
		"class C {} new C<B>(1!); let a = 1; new a.b.c<D, E>();", "class C {} new C(1); let a = 1; new a.b.c();",
		"class D {} class C<A, B> extends D<A> implements E, F.G<H> {}", "class D {} class C extends D {}",
		"class C { m<T>(a?: T): T { return a!; } }", "class C { m(a) { return a; } }",
		"let a: A = 1; const b: B<C>[] = 2; for (let i: {c: D} = 0;;) {}", "let a = 1; const b = 2; for (let i = 0;;) {}",
		// Fields.
		"class C { a; b: B; readonly c; readonly d: D; }", "class C {}",
		"class C { a = 1; b: B = 2; readonly c = 3; readonly d: D = 4; }", "class C { a = 1; b = 2; c = 3; d = 4; }",
		"class C { a; b = 1; c; m() {} d: D; constructor() {} e; }", "class C { b = 1; m() {} constructor() {} }",
		"class C { c = undefined; d = undefined!; e = null as A; }", "class C { c = undefined; d = undefined; e = null; }",
		// Params that are Optional.
		"function f(a?, b?: A) {} let g = (a?, b?: A) => a; class C { m(a?, b?: A) {} constructor(a?, b?: A) {} }", "function f(a, b) {} let g = (a, b) => a; class C { m(a, b) {} constructor(a, b) {} }",
	)
}

// P13.1, P13.3: plain programs, of every kind that a plain one may have, are themselves.
func TestPlain(t *testing.T) {
	stays(t,
		"",
		";",
		"let x = 1; const y = [x, {b: x, x}, `d${x}f`, `g`, 'h'];",
		"true; false; null; undefined; 9007199254740991;",
		"let f = (a, b) => a; let g = a => {}; function h(a) { return; }",
		"let a = 1; !a; -a; ~a; typeof a; a || a && a | a ^ a & a; a === a; a !== a; a < a; a <= a; a > a; a >= a; a in a; a << a; a >> a; a >>> a; a + a; a - a; a * a; a % a; a ? a : a;",
		"let a = 1; a = 1; a += 1; a.b -= 1; a[0] *= 1; a %= a(1, a); new a(a); new a.b.c(); a.b.c; a[a][1];",
		"class B {} class C extends B { x = 1; m(a) { super.m(a); this.x; } constructor(a) { super(a); } }",
		"class C { constructor() {} }",
		"if (1) {} if (1) {} else {} if (1) {} else if (2) { ; } else { throw 3; }",
		"while (true) { break; } for (let i = 0; i < 1; i += 1) { continue; } for (const x of 1) { break; } for (let x of 1) { x = 2; } for (;;) {}",
		"try {} catch (e) { e = 1; } try {} finally {} try {} catch (e) {} finally {} { { ; } }",
		// What is plain in the place of an enum, of a namespace.
		"const E = {A: 0}; print(E.A); const N = (() => { const a = 1; return {a: a}; })(); print(N.a);",
	)
}
