package machine_test

import "testing"

// P17.1: Enums of none, one and many members, of numbers, of texts and of both.
func TestEnums(t *testing.T) {
	gives(t,
		done("enum E {} print(E, E.A, typeof E, `${E}`);", "{} undefined object {}"),
		done("enum E { A } print(E, E.A);", "{A: 0} 0"),
		done("enum E { A, B, C, D } print(E, E.C + 1);", "{A: 0, B: 1, C: 2, D: 3} 3"),
		done(`enum E { A = 2, B, C = -1, D, F = "x", G = 7, H } print(E);`, `{A: 2, B: 3, C: -1, D: 0, F: "x", G: 7, H: 8}`),
		done("enum E { A = 1 << 4, B = ~3, C = 7 % 4 * -2, D = -8 >>> 1, F = 9007199254740991, G = -9007199254740991 } print(E);", "{A: 16, B: -4, C: -6, D: 2147483644, F: 9007199254740991, G: -9007199254740991}"),
		done(`enum E { A = 1, B = 1, C = "x", D = "x", F = "" } print(E, E.A === E.B, E.C === E.D, E.F.length, E.C.length);`, `{A: 1, B: 1, C: "x", D: "x", F: ""} true true 0 1`),
		done(`enum E { push, length, print, E = 5, this$ } print(E.push, E.length, E.print, E.E, E["E"], "length" in E, "A" in E);`, "0 1 2 5 5 true false"),
		done("enum E { A } enum F { A = 1 } print(E.A, F.A, E === F, E === E);", "0 1 false true"),
		done("enum E { B, A } for (const x of [E.B as any, E.A!]) { print(x); } print((E as any).B, E!.A, E[\"A\"], E[\"Z\"]);", "0\n1\n0 1 1 undefined"),
		done(`enum E { A = "é\n\u{0}€", B = "a b" } print(E); print(E.A.length);`, `{A: "é\n\u{0}€", B: "a b"}`+"\n4"),
		throws("enum E { A } throw E;", "{A: 0}", ""),
		throws("enum E { A } E();", "TypeError: no function", ""),
		throws("enum E { A } new E();", "TypeError: no class", ""),
		throws("enum E { A } class C extends E {}", "TypeError: no class", ""),
		throws("enum E { A } E.A();", "TypeError: no function", ""),
		throws("enum E { A } E.Z.a;", "TypeError: no members", ""),
	)
}

// P17.1: an Enum's variable has its object from its statement on; the object may be changed, the members may not be told apart from others.
func TestEnumsInTime(t *testing.T) {
	gives(t,
		throws("f(); enum E { A } function f() { return E.A; }", "ReferenceError: E", ""),
		throws("(() => E)(); enum E { A }", "ReferenceError: E", ""),
		done("try { f(); } catch (e) { print(e); } enum E { A = 3 } print(f()); function f() { return E.A; }", "ReferenceError: E\n3"),
		done("enum E { A, B } E.A = 5; E.B += 2; E[\"C\"] = E.A = 7; E.D = () => E.A; print(E, E.D());", "{A: 7, B: 3, C: 7, D: function} 7"),
		done("enum E { A } const e = E; e.A = \"x\"; print(E.A, e === E);", "x true"),
		done("const l = []; for (const x of [1, 2]) { enum E { A, B } E.A = x; l.push(E); } print(l, l[0] === l[1]);", "[{A: 1, B: 1}, {A: 2, B: 1}] false"),
		done("function f() { enum E { A = 4 } return E; } print(f() === f(), f()); class C { m() { enum E { A } return () => E; } v = (() => { enum E { B } return E; })(); } print(new C().m()(), new C());", "false {A: 4}\n{A: 0} {v: {B: 0}}"),
		done("{ enum E { A = 1 } { enum E { A = 2 } print(E.A); } print(E.A); } enum E { A = 3 } print(E.A); try { enum E { A = 4 } throw E.A; } catch (E) { print(E); }", "2\n1\n3\n4"),
		done("enum print$ { A } enum x1 { print, input } print(print$.A, x1);", "0 {print: 0, input: 1}"),
	)
}

// P17.1: a member of a Const Enum is its value, wherever an expression may stand.
func TestConstEnums(t *testing.T) {
	const F = `const enum F { A, B = -2, C, D = "x", E = "", push = 5, length, F } `
	gives(t,
		done(F+"print(F.A, F.B, F.C, F.D, F.E, F.push, F.length, F.F);", "0 -2 -1 x  5 6 7"),
		done("const enum F {}", ""),
		done("const enum F { A = 9007199254740991, B = -9007199254740991, C = 1 << 4 } print(F.A, F.B, F.C);", "9007199254740991 -9007199254740991 16"),
		done(F+"print(F.A + F.B * F.push, -F.B, !F.A, typeof F.A, typeof F.D, F.D + F.A, F.D.length, F.D[F.A], `${F.D}${F.B}`);", "-10 2 true number string x0 1 x x-2"),
		done(F+"print([F.A, [F.D]], {a: F.A, b: F.D}, F.A ? 1 : 2, F.push && F.D, F.A || F.C, F.D in {x: 1}, (() => F.B)());", `[0, ["x"]] {a: 0, b: "x"} 2 x -1 true -2`),
		done(F+"let x = F.A; x += F.push; const o = {}; o[F.D] = F.A; o.a = F.B; const l = []; l[F.A] = F.D; l.push(F.C); print(x, o, l, l[F.A]);", `5 {x: 0, a: -2} ["x", -1] x`),
		done(F+"if (F.A) { print(1); } else { print(2); } while (F.A) {} for (const c of F.D) { print(c); } for (let i = F.A; i < F.push; i += F.push) { print(i); }", "2\nx\n0"),
		done(F+"print(F.A as any, F.D!, (F.B as F)!, (F.A as any).b, F.B!.c, F.A.F, F.D.length.length);", "0 x -2 undefined undefined undefined undefined"),
		done(F+"class C { v = F.A; m(x) { return [x, F.D]; } constructor(x: F) { this.w = [x, F.B]; } } print(new C(F.F), new C(F.A).m(F.C));", `{v: 0, w: [7, -2]} [-1, "x"]`),
		throws(F+"try { F.A(); } catch (e) { print(e); } (F.push as any)!(1);", "TypeError: no function", "TypeError: no function"),
		throws(tracing+F+"F.push(t(1));", "TypeError: no function", "1"),
		throws(tracing+F+"F.A.push!(t(1));", "TypeError: no function", "1"),
		throws(F+"throw F.D;", "x", ""),
		throws(F+"F.A.a = 1;", "TypeError: no members", ""),
		done(F+"try { F.A[F.A] = 1; } catch (e) { print(e); } print(F.A[F.A], F.D.F);", "TypeError: index\nundefined undefined"),
	)
}

// P17.1: nothing is done of a Const Enum, so its members have their values ahead of it, too; names within stand for what they are declared for.
func TestConstEnumsInTime(t *testing.T) {
	gives(t,
		done("print(f()); const enum F { A = 3 } function f() { return F.A; }", "3"),
		done("print((() => F.A + 1)()); class C { v = F.A; } print(new C()); const enum F { A = 3 }", "4\n{v: 3}"),
		done("const enum F { A = 1 } { print(F.A); { const enum F { A = 2 } print(F.A); } print(F.A); } function f() { const enum F { A = 4 } return F.A; } print(f());", "1\n2\n1\n4"),
		done("const enum F { A = 1 } { let F = {A: 2}; print(F.A, F); F.A = 3; print(F.A); } for (const F of [{A: 5}]) { print(F.A); } print(((F) => F.A)({A: 6})); try { throw {A: 7}; } catch (F) { print(F.A); }", "2 {A: 2}\n3\n5\n6\n7"),
		done("const enum F { A = 1 } { enum F { A = 2 } print(F.A, F); { const enum F { A = 3 } print(F.A); } }", "2 {A: 2}\n3"),
		done("enum F { A = 1 } function f() { return F.A; } { const enum F { A = 2 } print(f(), F.A); function g() { return F.A; } print(g()); }", "1 2\n2"),
		done("const enum print1 { A = 8 } const enum print2 { A = 9 } print(print1.A, print2.A); namespace N { const enum F { A = 2 } export const a = F.A; export function f() { return F.A + 1; } } print(N.a, N.f());", "8 9\n2 3"),
		done("const enum F { A = 1 } const o = {F: {A: 2}}; print(o.F.A, {F: 3}.F, o.F);", "2 3 {A: 2}"),
	)
}

// P17.1: an Enum is a step, and its object and each member a cell; a Const one is a step alone, and so is its member.
func TestStepsOfEnums(t *testing.T) {
	wants(t,
		costs{"enum E {}", 1, 3}, costs{"enum E { A }", 1, 4}, costs{`enum E { A = -1, B = 1 + 2 * 3, C = "x", D = ~1 }`, 1, 7}, costs{"enum E { A } E;", 3, 4}, costs{"enum E { A } E.A;", 4, 4}, costs{"enum E { A } E.B = E.A = 1;", 7, 5},
		costs{"const enum F {}", 1, 2}, costs{`const enum F { A = -1, B = 1 + 2 * 3, C = "x" }`, 1, 2}, costs{"const enum F { A } F.A;", 3, 2}, costs{"const enum F { A } F.A as any;", 4, 2}, costs{"const enum F { A } [F.A, -F.A];", 6, 5}, costs{"const enum F { A } F.A.b;", 4, 2}, costs{"const enum F { A } let x = F.A; x += F.A;", 6, 2},
		costs{"for (const x of [1, 2]) { enum E { A, B } const enum F { A } }", 10, 11}, costs{"function f() { enum E { A } return E; } f(); f();", 15, 7}, costs{"if (0) { enum E { A } }", 2, 2},
	)
}

// P17.1: what has no cell ends the run where it is laid: what was ahead of it was done.
func TestRoomOfEnums(t *testing.T) {
	x := read(t, "print(1); enum E { A, B, C } print(2);")
	for cells := 2; cells < 6; cells++ {
		got := agrees(t, "an Enum", x, nil, plenty, cells)
		if !got.isOver(5, cells, "1") {
			t.Errorf("%d cells: %+v", cells, got)
		}
	}
}
