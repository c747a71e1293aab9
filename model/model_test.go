package model_test

import (
	"slices"
	"testing"

	"shuck/api"
	"shuck/model"
	"shuck/parse"
)

// The tests of all that the chapter says lie beside the machine, where both Programs are held against one slow reading.

// P17.1: the examples of the chapter, and what they cost.
func TestExamples(t *testing.T) {
	for _, x := range []struct {
		text         string
		outputs      []string
		steps, cells int
	}{
		{`enum E { A = 2, B } print(E.B, E); const enum F { X = "x" } print(F.X);`, []string{"3 {A: 2, B: 3}", "x"}, 12, 5},
		{"namespace N { export const a = 1; export function f() { return a; } } print(N, N.f());", []string{"{a: 1, f: function} 1"}, 14, 6},
		{"class P { constructor(public x: number) { print(this.x); } } new P(3 as any);", []string{"3"}, 12, 6},
	} {
		tree, _, _ := parse.Program([]byte(x.text))
		o, e := model.Program(tree, nil, 1000, 100)
		if e != api.OK || o.End != api.EndDone || !slices.Equal(o.Outputs, x.outputs) || o.Steps != x.steps || o.Cells != x.cells {
			t.Errorf("%s: %+v %v", x.text, o, e)
		}
	}
	if _, at, e := parse.Program([]byte("class P { constructor(public x: number, readonly y = 1) {} }")); e != api.ErrSyntax {
		t.Error(at, e)
	}
}

// P17.1: the errors in their order.
func TestErrors(t *testing.T) {
	if _, e := model.Program(api.Tree{}, nil, -1, -1); e != api.ErrTree {
		t.Error(e)
	}
	for text, want := range map[string]api.Errno{"const enum E { A } E; y;": api.ErrName, "const enum E { A } E;": api.ErrType, "let x: A = 1!;": api.ErrArg} {
		tree, _, _ := parse.Program([]byte(text))
		if o, e := model.Program(tree, nil, api.MaxFuel+1, 0); e != want || o.End != 0 {
			t.Errorf("%s: %v", text, e)
		}
	}
}
