package erase_test

import (
	"testing"

	"shuck/api"
)

// P13.1: what is left with the At of each node, which is three times its number in what was handed in: of nodes that stay their own, of new ones that of the Enum, the Member, the Namespace or the Param.
func TestPlaces(t *testing.T) {
	for _, c := range []struct{ text, want string }{
		// Nodes that stay, behind others that go.
		{"type T = 1; print;", "Program@0 [Eval@12 [Name print@15]]"},
		{"(print! as A)!.a;", "Program@0 [Eval@3 [Member a@6 [Name print@18]]]"},
		{"let x: A = print as B;", "Program@0 [Var x@3 [-@6, Name print@15]]"},
		{"function f<T>(a?: T): T {}", "Program@0 [Func f@3 [L@6, L@12 [Param a@15 [-@18]], -@24, Block@30]]"},
		{"class C { readonly x: T = 1; y; }", "Program@0 [Class C@3 [L@6, -@9, L@12, L@15 [Field x@18 [-@21, Num 1@27]]]]"},
		// An Enum: the Var, its None, its Object and all in it.
		{"enum E {}", "Program@0 [Var E 1@3 [-@3, Object@3]]"},
		{`; enum E { A, B = -2, C = "x" } ;`, "Program@0 [Empty@3, Var E 1@6 [-@6, Object@6 [Prop A@6 [Num@6], Prop B@6 [Unary -@6 [Num 2@6]], Prop C@6 [Str x@6]]], Empty@30]"},
		// A Member of a Const Enum.
		{`const enum E { A, B = -2, C = "x" } print(E.A, E.B); E.C.D;`, "Program@0 [Eval@27 [Call@30 [Name print@33, L@36, L@39 [Num@42, Unary -@48 [Num 2@48]]]], Eval@54 [Member D@57 [Str x@60]]]"},
		// A Namespace: all that is not of its statements.
		{"namespace N {}", "Program@0 [Var N 1@3 [-@3, Call@3 [Arrow@3 [L@3, L@3, Block@3 [Return@3 [Object@3]]], L@3, L@3]]]"},
		{"; namespace N { ; export const a: A = 1; export type T = 1; export enum E { A } }", "Program@0 [Empty@3, Var N 1@6 [-@6, Call@6 [Arrow@6 [L@6, L@6, Block@6 [Empty@9, Var a 1@15 [-@18, Num 1@24], Var E 1@42 [-@42, Object@42 [Prop A@42 [Num@42]]], Return@6 [Object@6 [Prop a@6 [Name a@6], Prop E@6 [Name E@6]]]]], L@6, L@6]]]"},
		{"namespace N { export namespace M { print; } }", "Program@0 [Var N 1@3 [-@3, Call@3 [Arrow@3 [L@3, L@3, Block@3 [Var M 1@9 [-@9, Call@9 [Arrow@9 [L@9, L@9, Block@9 [Eval@12 [Name print@15], Return@9 [Object@9]]], L@9, L@9]], Return@3 [Object@3 [Prop M@3 [Name M@3]]]]], L@3, L@3]]]"},
		// A Param.
		{"class C { constructor(a, public b?: B, readonly c) { ; } }", "Program@0 [Class C@3 [L@6, -@9, L@12, L@15 [Ctor@18 [L@21 [Param a@24 [-@27], Param b@30 [-@33], Param c@39 [-@42]], Block@45 [" +
			"Eval@30 [Assign =@30 [Member b@30 [This@30], Name b@30]], Eval@39 [Assign =@39 [Member c@39 [This@39], Name c@39]], Empty@48]]]]]"},
	} {
		got, why := agrees(t, c.text, numbered(read(t, c.text)))
		if s := told(got.left); got.err != api.OK || s != c.want {
			t.Errorf("%s: %v %s\n%s, not\n%s", c.text, got.err, why, s, c.want)
		}
	}
}

// P13.1: At steers nothing but At, however it is.
func TestAnyPlaces(t *testing.T) {
	text := constEnums + "enum F { A, B = -1 } namespace N { export const a = E.B; } class C { constructor(public x) { E.A; } }"
	want, _ := agrees(t, text, read(t, text))
	for _, at := range []int{-1 << 63, -1, 0, 7, 1<<63 - 1} {
		x := turned(read(t, text), func(l []api.Node) {
			for n := range l {
				l[n].At = at
			}
		})
		got, _ := agrees(t, text, x)
		if !equal(numbered(got.left), numbered(want.left)) || got.err != api.OK {
			t.Errorf("%d: %v, %s", at, got.err, told(got.left))
		}
		for _, node := range got.left.Nodes {
			if node.At != at {
				t.Errorf("%d: %v", at, node)
			}
		}
	}
}
