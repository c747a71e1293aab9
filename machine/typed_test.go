package machine_test

import (
	"testing"

	"shuck/api"
	"shuck/bind"
	"shuck/tree"
)

// P17.1: the examples of the chapter, as they stand there.
func TestTypedExamples(t *testing.T) {
	gives(t,
		done(`enum E { A = 2, B } print(E.B, E); const enum F { X = "x" } print(F.X);`, "3 {A: 2, B: 3}\nx"),
		done("namespace N { export const a = 1; export function f() { return a; } } print(N, N.f());", "{a: 1, f: function} 1"),
		done("class P { constructor(public x: number) { print(this.x); } } new P(3 as any);", "3"),
	)
}

// typedNames are trees that are not plain and that chapter 7 refuses, some of them by chapter 13's own errors, too.
func typedNames(t *testing.T) []refused {
	t.Helper()
	var l []refused
	for _, text := range []string{
		"E; enum E {}", "enum E { A = 1, B = A }", "enum E { A, B = E.A }", "const enum E { A, B = E.A }", "N; namespace N {}", "enum E { A = E }", "namespace N { N; }", "E = 1; enum E {}", "enum E {} E = 1;", "namespace N {} N += 1;", "const enum E {} E = 1;", "enum E {} enum E {}", "enum E {} namespace E {}", "namespace N { let a = 1; export const a = 1; }", "let E = 1; const enum E {}",
		"namespace N { return 1; }", "while (true) { namespace N { break; } }", "for (;;) { namespace N { continue; } }", "namespace N { this; }", "class C { m() { namespace N { this; } } }", "class B {} class C extends B { m() { namespace N { super.m(); } } }", "function f() { namespace N { return; } }",
		"namespace N { const a = 1; } a;", "namespace N { export const a = 1; } a;", "class P { constructor(public a) { let a = 1; } }", "class P { constructor(public a, readonly a) {} }", "class B {} class P extends B { constructor(public a) {} }", "x as any;", "x!;", "class C { constructor() { super() as any; } }", "print(E.A); const enum E { A }",
		"x; enum E { A, A }", "const enum E { A } E; x;", "const enum E { A } E.Z; let E = 1;",
	} {
		l = append(l, refused{text, read(t, text), api.ErrName})
	}
	return l
}

// typeErrors are trees that chapter 7 takes and chapter 13 does not.
func typeErrors(t *testing.T) []refused {
	t.Helper()
	var l []refused
	for _, text := range []string{
		"enum E { A, A }", "const enum E { A, A }", "enum E { A = 1 % 0 }", "enum E { A = f() } function f() {}", `enum E { A = "x", B }`, "enum E { A = 9007199254740991, B }", "enum E { A = 9007199254740991 + 1 }", "enum E { A, B = print }", "let A = 1; enum E { B = A }", "enum D { A } enum E { B = D.A }", "enum E { A = `x` }", "namespace N { export enum E { A = null } }",
		"const enum E { A } E;", "const enum E { A } print(E);", "const enum E { A } E.B;", "const enum E { A } E!.A;", "const enum E { A } (E as any).A;", `const enum E { A } E["A"];`, "const enum E { A } E.A = 1;", "const enum E { A } E.A += 1;", "const enum E { A } new E();", "const enum E { A } new E.A();", "const enum E { A } new E.A.B();", "const enum E { A } class C extends E {}", "const enum E { A } typeof E;", "const enum E { A } E();", "const enum E { A } const enum F { B = E.A }", "const enum E { A } () => E;", "function f() { return E; } const enum E {}",
		"print(1); namespace N { const enum E {} E.A; }", "while (true) {} enum E { A, A }",
	} {
		l = append(l, refused{text, read(t, text), api.ErrType})
	}
	return l
}

func constEnum() api.Tree {
	return tree.Make(api.Node{Kind: api.Enum, Text: "E", Num: api.Const})
}

// noPrograms are trees that have another root, and ones with something where it may not stand.
func noPrograms() []refused {
	var l []refused
	for what, x := range map[string]api.Tree{
		"an expression": number(1), "a statement": node(api.Empty, ""), "a List": list(), "None": none(), "a Name": name("x"), "a Block": node(api.Block, ""), "a type": node(api.TypeName, "A", list()), "a Break": node(api.Break, ""), "an Enum": node(api.Enum, "E"), "a Namespace": node(api.Namespace, "N"), "an Export": node(api.Export, "", node(api.Namespace, "N")), "an As": node(api.As, "", number(1), node(api.TypeName, "A", list())),
		"a Const Enum exported": node(api.Program, "", node(api.Namespace, "N", node(api.Export, "", constEnum()))), "an Export in a Program": node(api.Program, "", node(api.Export, "", node(api.Namespace, "N"))), "an As assigned to": node(api.Program, "", node(api.Eval, "", node(api.Assign, "=", node(api.Bang, "", name("print")), number(1)))),
	} {
		l = append(l, refused{what, x, api.ErrTree})
	}
	return l
}

// P17.1: chapter 13's errors, each one alone, and ahead of what is told by fuel and cells.
func TestTypedErrors(t *testing.T) {
	for _, l := range [][]refused{noTrees(), noPrograms(), noNames(t), typedNames(t), typeErrors(t)} {
		typed().refuse(t, l)
	}
	for _, r := range typeErrors(t) {
		if _, _, e := bind.Program(r.x); e != api.OK {
			t.Errorf("%s: %v", r.what, e)
		}
	}
	// What chapter 5 refuses is none of these.
	for _, r := range notPlain(t) {
		got := agreesAs(t, typed(), r.what, r.x, nil, plenty, plenty)
		if got.err == api.ErrCore {
			t.Errorf("%s: %v", r.what, got.err)
		}
	}
}

// P17.1: where cells are too few for print and input, the run ends at no step.
func TestNoRoomForTyped(t *testing.T) {
	for _, text := range []string{"enum E { A }", "namespace N {}", "interface I {}", "const enum F {}", "class P { constructor(public a) {} }"} {
		for _, fuel := range []int{0, 1, api.MaxFuel} {
			for cells := range 2 {
				if got := agrees(t, text, read(t, text), nil, fuel, cells); !got.isOver(0, cells) {
					t.Errorf("%s: %+v", text, got)
				}
			}
		}
	}
}

// P17.2: what is erased ends the same, also where the typed program wants much less.
func TestEndsAsErased(t *testing.T) {
	for _, text := range []string{
		"const l = []; for (let i = 0; i < 30; i += 1) { enum E { A, B, C, D } namespace N { export const a = i; export class P { constructor(public a, public b, readonly c) {} } } l.push(new N.P(E.A, E.B, i)); print(N.a, l[i]); } throw l[29];",
		"class A { constructor(public a, public b) {} } class B extends A { constructor(public a, public c) { super(a + 1, c); } } function f(n: number) { namespace N { export const b = new B(n, [n]); } return n === 0 ? N : [N.b, f(n - 1)]; } print(f(3)); f(300);",
		"function g() { return N.a; } try { g(); } catch (e) { print(e); } namespace N { export const a: any = 1 % 0; }",
	} {
		x := read(t, text)
		all := agrees(t, text, x, nil, plenty, plenty)
		for fuel := 0; fuel < all.Steps; fuel += 41 {
			agrees(t, text, x, nil, fuel, plenty)
		}
		for cells := range all.Cells {
			agrees(t, text, x, nil, plenty, cells)
		}
	}
}
