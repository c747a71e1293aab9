package erase_test

import (
	"math"
	"strings"
	"testing"

	"shuck/api"
	"shuck/bind"
	"shuck/tree"
)

// noTrees are what chapter 3 refuses, and roots that are no Program.
func noTrees(t *testing.T) []api.Tree {
	t.Helper()
	whole := read(t, "enum E { A = 1 } const enum F { A, B = 'x' } namespace N { export const a = F.A; } class C extends N { x; constructor(public y) { super(); } }")
	l := []api.Tree{
		{},
		{Nodes: []api.Node{}},
		{Nodes: whole.Nodes[:0]},
		{Nodes: whole.Nodes[:len(whole.Nodes)-1]},
		{Nodes: []api.Node{{}}},
		{Nodes: []api.Node{{Kind: api.Program, Kids: []int{0}}}},
		{Nodes: []api.Node{{Kind: api.Program, Kids: []int{1}}, {Kind: api.Namespace, Text: "N", Kids: []int{1}}}},
		{Nodes: []api.Node{{Kind: api.Program, Kids: []int{1}}, {Kind: api.Enum, Text: "E", Kids: []int{0}}}},
		{Nodes: []api.Node{{Kind: api.Program, Kids: []int{2, 1}}, {Kind: api.Empty}, {Kind: api.Empty}}},
		{Nodes: []api.Node{{Kind: api.Program}, {Kind: api.Empty}}},
		tree.Make(api.Node{Kind: api.Program}, tree.Make(api.Node{Kind: api.Enum, Text: "if"})),
		tree.Make(api.Node{Kind: api.Program}, tree.Make(api.Node{Kind: api.Enum, Text: "E", Num: 2})),
		tree.Make(api.Node{Kind: api.Program}, tree.Make(api.Node{Kind: api.Export}, tree.Make(api.Node{Kind: api.Enum, Text: "E"}))),
	}
	for n := range whole.Nodes {
		for _, kind := range []int{math.MinInt, -1, 0, api.Catch, api.TypeProp, 88, math.MaxInt} {
			l = append(l, turned(whole, func(l []api.Node) { l[n].Kind = kind }))
		}
		for _, kid := range []int{math.MinInt, -1, 0, n, n + 1, len(whole.Nodes), math.MaxInt} {
			l = append(l, turned(whole, func(l []api.Node) { l[n].Kids = append(l[n].Kids, kid) }))
		}
		l = append(l, turned(whole, func(l []api.Node) { l[n].Num = -1 }), turned(whole, func(l []api.Node) { l[n].Text = "a b\xff" }))
		if sub, _ := tree.Sub(whole, n); n > 0 {
			l = append(l, sub)
		}
	}
	return l
}

// P13.1: chapter 7's error comes first: ErrTree, with the node that chapter 3 or 7 tells.
func TestNoTree(t *testing.T) {
	refused := 0
	for _, x := range noTrees(t) {
		uses, n, e := bind.Program(x)
		if e != api.ErrTree {
			t.Fatalf("%v, %v: %v", uses, e, x)
		}
		if got := program(t, x); !got.is(answer{api.Tree{}, n, api.ErrTree}) {
			t.Errorf("%v, not %d: %v", got, n, x)
		}
		refused++
	}
	if refused < 500 {
		t.Errorf("only %d", refused)
	}
}

// names are offences of each of chapter 7's nine ways.
var names = []offence{
	{"Var", "let x = 1; @let x = 2;"}, {"Var", "function f(a) { @let a = 1; }"}, {"Enum", "enum E {} @enum E {}"}, {"Enum", "function f(a) { @const enum a { A } }"}, {"Namespace", "class C { constructor(public a) { @namespace a {} } }"},
	{"Name", "@x;"}, {"Base", "class C @extends D {}"}, {"Name", "@E.A;"},
	{"Name", "@x; let x = 1;"}, {"Name", "@E.A; enum E { A }"}, {"Name", "@E.A; const enum E { A }"}, {"Name", "namespace N { @N.a; }"}, {"Name", "const enum E { A = @E.A }"},
	{"Assign", "const c = 1; @c = 2;"}, {"Assign", "enum E {} @E = 1;"}, {"Assign", "const enum E {} @E = 1;"}, {"Assign", "namespace N {} @N = 1;"}, {"Assign", "@print = 1;"},
	{"Return", "@return 1;"}, {"Return", "namespace N { @return; }"}, {"Return", "function f() { namespace N { @return; } }"}, {"Return", "class C { constructor(public x) { @return 1; } }"},
	{"Break", "@break;"}, {"Continue", "while (1) { namespace N { @continue; } }"},
	{"This", "@this;"}, {"This", "class C { m() { namespace N { @this; } } }"},
	{"SuperMember", "class C { m() { @super.m; } }"},
	{"Ctor", "class D {} class C extends D { @constructor(public x) {} }"}, {"Super", "class C { constructor() { @super(); } }"}, {"Ctor", "class D {} class C extends D { @constructor() { super()!; } }"}, {"Ctor", "class D {} class C extends D { @constructor() { type T = 1; super(); } }"},
}

// P13.1: chapter 7's error comes first: ErrName and the node, whatever offends beside it here.
func TestNames(t *testing.T) {
	for _, o := range names {
		for _, beside := range []string{"", "enum Z { A = 1 % 0 } ", "const enum Y { A } Y; Y.B; ", "const enum Y { A } class X extends Y {} "} {
			ahead, behind, _ := strings.Cut(beside+o.text, "@")
			x := read(t, ahead+behind)
			got := program(t, x)
			if want := one(t, x, len(ahead), o.word); !got.is(answer{api.Tree{}, want, api.ErrName}) {
				t.Errorf("%s%s: %v, %d, not %d", beside, o.text, got.err, got.node, want)
			}
		}
	}
}
