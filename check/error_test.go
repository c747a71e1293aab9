package check_test

import (
	"testing"

	"shuck/api"
	"shuck/bind"
)

// noTrees are lists of nodes that chapter 3 refuses, or whose root is no Program.
func noTrees() []api.Tree {
	return []api.Tree{
		{}, {Nodes: []api.Node{}}, {Nodes: []api.Node{{}}}, {Nodes: []api.Node{{Kind: api.Num}}}, {Nodes: []api.Node{{Kind: api.Block}}}, {Nodes: []api.Node{{Kind: api.TypeName, Text: "a", Kids: []int{1}}, {Kind: api.List}}},
		{Nodes: []api.Node{{Kind: api.Program, Kids: []int{1}}}}, {Nodes: []api.Node{{Kind: api.Program, Kids: []int{-1}}}}, {Nodes: []api.Node{{Kind: api.Program, Kids: []int{0}}}}, {Nodes: []api.Node{{Kind: api.Program, Text: "x"}}},
		{Nodes: []api.Node{{Kind: api.Program, Kids: []int{1}}, {Kind: api.Num}}}, {Nodes: []api.Node{{Kind: api.Program, Kids: []int{1}}, {Kind: api.Eval, Kids: []int{2}}, {Kind: api.Prop}}}, {Nodes: []api.Node{{Kind: api.Program, Kids: []int{1}}, {Kind: api.Empty}, {Kind: api.Empty}}},
		{Nodes: []api.Node{{Kind: api.Program, Kids: []int{1}}, {Kind: api.Eval, Kids: []int{2}}, {Kind: api.Name, Text: "1"}}}, {Nodes: []api.Node{{Kind: api.Program, Kids: []int{1}}, {Kind: 99}}}, {Nodes: []api.Node{{Kind: api.Program, Kids: []int{2}}, {Kind: api.Empty}, {Kind: api.Empty}}},
	}
}

// refusedAs fails, unless chapter 7's error and node are told, and no Types.
func refusedAs(t *testing.T, x api.Tree, want api.Errno) {
	t.Helper()
	_, n, e := bind.Program(x)
	c := program(t, x)
	if e != want || c.Err != e || c.Node != n || len(c.Types) != 0 {
		t.Errorf("%v: %v, %d with %d types, chapter 7 says %v, %d", x, c.Err, c.Node, len(c.Types), e, n)
	}
}

// P12.1: trees that chapter 7 refuses as no trees.
func TestNoTrees(t *testing.T) {
	for _, x := range noTrees() {
		refusedAs(t, x, api.ErrTree)
	}
	x := read(t, "let x: number = \"\"; function f<T>(a?: T): T[] { return [a]; } class C { m() { this; } }")
	for n := range x.Nodes {
		for _, spoil := range []func(*api.Node){
			func(n *api.Node) { n.Kind = 0 }, func(n *api.Node) { n.Kind = 1000 }, func(n *api.Node) { n.Num = -9 }, func(n *api.Node) { n.Kids = append(n.Kids, 1<<40) }, func(n *api.Node) { n.Kids = append(n.Kids, -1) },
		} {
			refusedAs(t, turned(x, func(l []api.Node) { spoil(&l[n]) }), api.ErrTree)
		}
	}
}

// P12.1: each way in which chapter 7 refuses, whatever offends besides.
func TestNames(t *testing.T) {
	for _, text := range []string{
		"x;", "let x = 1; let x = 2;", "function f(a) { let a = 1; }", "x; let x = 1;", "let x = x;", "class C extends C {}", "const c = 1; c = 2;", "print = 1;", "return 1;", "break;", "while (true) { () => { continue; }; }", "this;", "super.x;", "class C { m() { super.m(); } }", "super();", "class D {} class C extends D { constructor() {} }", "class C { constructor() { return 1; } }", "namespace N { return; }", "class A {} class A {}", "enum E {} let E = 1;", "new X();", "x.y = 1;",
	} {
		refusedAs(t, read(t, text), api.ErrName)
		refusedAs(t, read(t, "let zz: number = \"\"; let zy: Nope = 1; "+text), api.ErrName)
	}
	takes(t, "interface x {} type y = x;", "let x = 1; type x = 1; { interface x {} }")
}
