package run_test

import (
	"slices"
	"testing"

	"shuck/api"
	"shuck/parse"
	"shuck/run"
)

// The tests of all that the chapter says lie beside the machine, where both Programs are held against one slow reading.

// P16.1: the examples of the chapter, as they stand there.
func TestExamples(t *testing.T) {
	for _, x := range []struct {
		text    string
		end     int
		thrown  string
		outputs []string
	}{
		{`print(1 + 2, "a", [1, "b"]);`, api.EndDone, "", []string{`3 a [1, "b"]`}},
		{`let x = input(); while (x !== null) { print(x); x = input(); }`, api.EndDone, "", []string{"p", "q"}},
		{`function f(n) { return n === 0 ? 0 : 1 + f(n - 1); } print(f(5)); f(1000);`, api.EndDeep, "", []string{"5"}},
		{`print(y()); const x = 1; function y() { return x; }`, api.EndThrow, "ReferenceError: x", nil},
		{`class A { v = 1; m() { return this.v; } } class B extends A { m() { return super.m() + 1; } } print(new B().m());`, api.EndDone, "", []string{"2"}},
		{`try { throw {a: 1}; } catch (e) { print(e.a); } finally { print("f"); }`, api.EndDone, "", []string{"1", "f"}},
		{`1 % 0;`, api.EndInexact, "", nil},
	} {
		tree, _, _ := parse.Program([]byte(x.text))
		o, e := run.Program(tree, []string{"p", "q"}, 100000, 1000)
		if e != api.OK || o.End != x.end || o.Thrown != x.thrown || !slices.Equal(o.Outputs, x.outputs) {
			t.Errorf("%s: %+v %v", x.text, o, e)
		}
	}
	tree, _, _ := parse.Program([]byte(`print(1 + 2, "a", [1, "b"]);`))
	if o, _ := run.Program(tree, nil, 100, 100); o.Steps != 10 {
		t.Error(o)
	}
}

// P16.1: the errors in their order.
func TestErrors(t *testing.T) {
	if _, e := run.Program(api.Tree{}, nil, -1, -1); e != api.ErrTree {
		t.Error(e)
	}
	for text, want := range map[string]api.Errno{"let x: A = y;": api.ErrCore, "let x = y;": api.ErrName, "let x = 1;": api.ErrArg} {
		tree, _, _ := parse.Program([]byte(text))
		if o, e := run.Program(tree, nil, 0, api.MaxCells+1); e != want || o.End != 0 {
			t.Errorf("%s: %v", text, e)
		}
	}
}
