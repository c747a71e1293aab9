package fold_test

import (
	"math"
	"testing"

	"shuck/api"
	"shuck/tree"
)

// P11.1, P11.2: numbers that are no node's.
func TestNoNode(t *testing.T) {
	for _, x := range []api.Tree{program(t, "enum E { A, B = 1 + 2 } 3;"), expr(t, "1 + 2"), node(api.Enum, "E", 0), number(1), none()} {
		size := len(x.Nodes)
		for _, n := range []int{-1, -2, -size, size, size + 1, size + 2, math.MinInt, math.MaxInt, 1 << 32, -1 << 32, 1<<32 + 1} {
			values(t, "no node", x, n, 0, api.ErrArg)
			lists(t, "no node", x, n, answer{nil, 0, api.ErrArg})
		}
	}
}

// P11.1, P11.2: nodes that are no expression, no Enum.
func TestWrongNode(t *testing.T) {
	x := program(t, "enum E { A, B = 1 + 2 } ({ a: 1 });") // Program 0, Enum 1, EnumMember 2, None 3, EnumMember 4, Binary 5, Num 6, Num 7, Eval 8, Object 9, Prop 10, Num 11
	for _, n := range []int{0, 1, 2, 3, 4, 8, 10} {
		values(t, "no expression", x, n, 0, api.ErrArg)
	}
	values(t, "a sum", x, 5, 3, api.OK)
	values(t, "an object", x, 9, 0, api.ErrType)
	for n := range x.Nodes {
		if n != 1 {
			lists(t, "no Enum", x, n, answer{nil, 0, api.ErrArg})
		}
	}
	exported := program(t, "namespace N { export enum E { A } }") // Program 0, Namespace 1, Export 2, Enum 3
	lists(t, "an Export", exported, 2, answer{nil, 0, api.ErrArg})
	lists(t, "the Enum", exported, 3, answer{[]api.Constant{{Name: "A", Node: 4}}, -1, api.OK})
}

// refused are trees that chapter 3's Check refuses: none at all, with cycles, with nodes too many, whose offence stands far from what is asked for.
func refused(t *testing.T) []api.Tree {
	enum, sum := program(t, `enum E { A, B = 1 + 2, C = "x" } 3 + 4;`), expr(t, "1 + 2")
	all := []api.Tree{
		{}, {Nodes: []api.Node{}}, {Nodes: enum.Nodes[:0]}, {Nodes: make([]api.Node, 1)}, {Nodes: make([]api.Node, 20)},
		{Nodes: []api.Node{{Kind: api.Unary, Text: "-", Kids: []int{0}}}},
		{Nodes: []api.Node{{Kind: api.Binary, Text: "+", Kids: []int{1, 1}}, {Kind: api.Num, Num: 1}}},
		{Nodes: []api.Node{{Kind: api.Binary, Text: "+", Kids: []int{1, 0}}, {Kind: api.Num, Num: 1}}},
		{Nodes: []api.Node{{Kind: api.Binary, Text: "+", Kids: []int{2, 1}}, {Kind: api.Num, Num: 1}, {Kind: api.Num, Num: 2}}},
		{Nodes: []api.Node{{Kind: api.Binary, Text: "+", Kids: []int{1}}, {Kind: api.Num, Num: 1}}},
		{Nodes: []api.Node{{Kind: api.Binary, Text: "+"}}}, {Nodes: []api.Node{{Kind: api.Unary, Text: "-"}}}, {Nodes: []api.Node{{Kind: api.Unary, Text: "~", Kids: []int{7}}}}, {Nodes: []api.Node{{Kind: api.Unary, Text: "~", Kids: []int{-1}}}},
		{Nodes: []api.Node{{Kind: api.Num, Num: -1}}}, {Nodes: []api.Node{{Kind: api.Num, Num: api.MaxNumber + 1}}}, {Nodes: []api.Node{{Kind: api.Num, Text: "1", Num: 1}}},
		{Nodes: []api.Node{{Kind: api.Enum, Text: "E", Kids: []int{0}}}}, {Nodes: []api.Node{{Kind: api.Enum, Text: "E", Kids: []int{1}}}}, {Nodes: []api.Node{{Kind: api.Enum}}}, {Nodes: []api.Node{{Kind: api.Enum, Text: "1"}}}, {Nodes: []api.Node{{Kind: api.Enum, Text: "E", Num: 2}}},
		{Nodes: []api.Node{{Kind: api.Enum, Text: "E", Kids: []int{1}}, {Kind: api.EnumMember, Text: "A"}}},
		{Nodes: []api.Node{{Kind: api.Enum, Text: "E", Kids: []int{1}}, {Kind: api.EnumMember, Text: "A", Kids: []int{1}}}},
		node(api.Enum, "E", 0, number(1)), node(api.Enum, "E", 0, node(api.EnumMember, "", 0, none())), node(api.Enum, "E", 0, node(api.EnumMember, "A", 1, none())), node(api.Enum, "E", 0, node(api.EnumMember, "A", 0, node(api.Str, "\xff", 0))),
		node(api.Namespace, "N", 0, node(api.Export, "", 0, node(api.Enum, "E", api.Const))),
	}
	for _, x := range []api.Tree{enum, sum} {
		for n := range x.Nodes {
			all = append(all,
				turned(x, func(l []api.Node) { l[n].Kind = 0 }),
				turned(x, func(l []api.Node) { l[n].Kind = api.Prop }),
				turned(x, func(l []api.Node) { l[n].Num = -1 }),
				turned(x, func(l []api.Node) { l[n].Text = "\xff" }),
				turned(x, func(l []api.Node) { l[n].Kids = append(l[n].Kids, n) }),
				turned(x, func(l []api.Node) { l[n].Kids = append(l[n].Kids, len(l)) }),
				turned(x, func(l []api.Node) { l[n].Kids = append(l[n].Kids, math.MinInt, math.MaxInt) }),
			)
		}
		all = append(all, api.Tree{Nodes: append(x.Nodes[:len(x.Nodes):len(x.Nodes)], api.Node{Kind: api.Num})}, api.Tree{Nodes: x.Nodes[:len(x.Nodes)-1]}, api.Tree{Nodes: x.Nodes[1:]})
	}
	return all
}

// P11.1, P11.2: what Check refuses is ErrTree, with a good number and with a bad one.
func TestRefused(t *testing.T) {
	for _, x := range refused(t) {
		if _, e := tree.Check(x); e != api.ErrTree {
			t.Fatalf("%v is a tree", x)
		}
		for n := -1; n <= len(x.Nodes); n++ {
			values(t, "no tree", x, n, 0, api.ErrTree)
			lists(t, "no tree", x, n, answer{nil, 0, api.ErrTree})
		}
		for _, n := range []int{math.MinInt, math.MaxInt} {
			values(t, "no tree", x, n, 0, api.ErrTree)
			lists(t, "no tree", x, n, answer{nil, 0, api.ErrTree})
		}
	}
}
