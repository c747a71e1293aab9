package machine_test

import (
	"math"
	"testing"

	"shuck/api"
	"shuck/bind"
	"shuck/core"
	"shuck/tree"
)

// fails is what a Program answers of a tree that it refuses.
func (f face) fails(t *testing.T, what string, x api.Tree, fuel, cells int, want api.Errno) {
	t.Helper()
	if got := agreesAs(t, f, what, x, []string{"p"}, fuel, cells); got.err != want {
		t.Errorf("%s of %s, %d steps, %d cells: %v, not %v", f.name, what, fuel, cells, got.err, want)
	}
}

// refuse fails, unless that is told of each tree whatever fuel and cells are.
func (f face) refuse(t *testing.T, l []refused) {
	t.Helper()
	for _, r := range l {
		for _, b := range allBounds() {
			f.fails(t, r.what, r.x, b.fuel, b.cells, r.want)
		}
		f.fails(t, r.what, r.x, plenty, plenty, r.want)
	}
}

// bounds are numbers of steps and of cells, and whether both may be handed in.
type bounds struct {
	fuel, cells int
	ok          bool
}

func allBounds() []bounds {
	return []bounds{
		{0, 0, true}, {0, 1, true}, {1, 0, true}, {1 << 40, 1 << 20, true}, {0, 1 << 20, true}, {1 << 40, 0, true}, {api.MaxFuel - 1, api.MaxCells - 1, true},
		{-1, 0, false}, {0, -1, false}, {-1, -1, false}, {1<<40 + 1, 0, false}, {0, 1<<20 + 1, false}, {1<<40 + 1, 1<<20 + 1, false}, {-1, 1<<20 + 1, false}, {1<<40 + 1, -1, false}, {1 << 40, 1<<20 + 1, false}, {1<<40 + 1, 1 << 20, false},
		{math.MinInt, 5, false}, {math.MaxInt, 5, false}, {5, math.MinInt, false}, {5, math.MaxInt, false}, {math.MinInt, math.MaxInt, false},
	}
}

// P16.1, P17.1: fuel and cells from 0 to MaxFuel and MaxCells are taken, no others.
func TestBounds(t *testing.T) {
	for text, faces := range map[string][]face{
		"": both(), "1;": both(), "print(1, [2]);": both(),
		"interface I {}": {typed()}, "enum E { A } namespace N { print(E.A as any); }": {typed()},
	} {
		for _, f := range faces {
			for _, b := range allBounds() {
				want := api.ErrArg
				if b.ok {
					want = api.OK
				}
				f.fails(t, text, read(t, text), b.fuel, b.cells, want)
			}
		}
	}
}

// refused is a tree, and the error that tells of it whatever fuel and cells are.
type refused struct {
	what string
	x    api.Tree
	want api.Errno
}

func node(kind int, text string, kids ...api.Tree) api.Tree {
	return tree.Make(api.Node{Kind: kind, Text: text}, kids...)
}

func number(n int) api.Tree { return tree.Make(api.Node{Kind: api.Num, Num: n}) }
func none() api.Tree        { return node(api.None, "") }
func name(s string) api.Tree {
	return node(api.Name, s)
}

func list(kids ...api.Tree) api.Tree { return node(api.List, "", kids...) }

// noTrees are ones that chapter 3 refuses.
func noTrees() []refused {
	program := api.Node{Kind: api.Program}
	spoilt := func(n api.Node) api.Tree { return api.Tree{Nodes: []api.Node{n}} }
	var l []refused
	for what, x := range map[string]api.Tree{
		"no node":                      {},
		"an empty list":                {Nodes: []api.Node{}},
		"no kind":                      spoilt(api.Node{}),
		"a kind that is none":          spoilt(api.Node{Kind: -1}),
		"a Program with a text":        spoilt(api.Node{Kind: api.Program, Text: "a"}),
		"a Program with a number":      spoilt(api.Node{Kind: api.Program, Num: 1}),
		"a kid that is itself":         spoilt(api.Node{Kind: api.Program, Kids: []int{0}}),
		"a kid that there is not":      spoilt(api.Node{Kind: api.Program, Kids: []int{1}}),
		"a kid below all":              spoilt(api.Node{Kind: api.Program, Kids: []int{-1}}),
		"a kid far away":               spoilt(api.Node{Kind: api.Program, Kids: []int{math.MaxInt}}),
		"a node beneath nothing":       {Nodes: []api.Node{program, {Kind: api.Empty}}},
		"a Program within one":         {Nodes: []api.Node{{Kind: api.Program, Kids: []int{1}}, program}},
		"an expression as a statement": node(api.Program, "", number(1)),
		"an Eval of nothing":           node(api.Program, "", node(api.Eval, "")),
		"an Eval of a statement":       node(api.Program, "", node(api.Eval, "", node(api.Empty, ""))),
		"a Num above all":              node(api.Program, "", node(api.Eval, "", number(api.MaxNumber+1))),
		"a bad text":                   node(api.Program, "", node(api.Eval, "", node(api.Str, "\xff"))),
		"a reserved word":              node(api.Program, "", node(api.Eval, "", name("while"))),
		"an Enum as an expression":     node(api.Program, "", node(api.Eval, "", node(api.Enum, "E"))),
	} {
		l = append(l, refused{what, x, api.ErrTree})
	}
	return l
}

// notPlain are trees with something that is no part of the core, and ones that are no Programs.
func notPlain(t *testing.T) []refused {
	t.Helper()
	var l []refused
	for _, text := range []string{
		"let x: A = 1;", "let x = 1 as A;", "let x = null!;", "enum E {}", "const enum E { A }", "namespace N {}", "interface I {}", "type T = null;", "f<A>(1);", "new C<A>();", "(x: A) => x;", "(x?) => x;", "<T>() => 1;",
		"function f<T>() {}", "function f(x: A) {}", "function f(): A {}", "class C<T> {}", "class C implements I {}", "class C extends D<A> {}", "class C { x; }", "class C { x: A = 1; }", "class C { readonly x = 1; }", "class C { m(): A {} }", "class C { m<T>() {} }", "class C { constructor(public x) {} }", "class C { constructor(x: A) {} }",
		"x; let y: A = 1;", "return 1; break; this; enum E {}",
	} {
		l = append(l, refused{text, read(t, text), api.ErrCore})
	}
	for what, x := range map[string]api.Tree{
		"an expression": number(1), "a statement": node(api.Empty, ""), "a List": list(), "None": none(), "a Name": name("x"), "a Block": node(api.Block, ""), "a type": node(api.TypeName, "A", list()), "a Break": node(api.Break, ""), "a Param": node(api.Param, "x", none()),
	} {
		l = append(l, refused{what, x, api.ErrCore})
	}
	return l
}

// noNames are plain trees that chapter 7 refuses.
func noNames(t *testing.T) []refused {
	t.Helper()
	var l []refused
	for _, text := range []string{
		"x;", "x = 1;", "let x = x;", "x; let x = 1;", "let x = 1; let x = 2;", "let x = 1; function x() {}", "class C extends C {}", "class C extends D {}", "const c = 1; c = 2;", "print = 1;", "input += 1;", "function f() {} f = 1;", "class C {} C = 1;", "for (const x of []) { x = 1; }",
		"function f(a) { let a = 1; }", "function f(a, a) {}", "try {} catch (e) { let e = 1; }", "return 1;", "return;", "break;", "continue;", "while (true) { () => { break; }; }", "this;", "() => this;", "function f() { this; }",
		"class C { m() { super.m(); } }", "class D {} class C extends D { constructor() {} }", "class D {} class C extends D { constructor() { 1; super(); } }", "class C { constructor() { super(); } }", "class C { constructor() { return 1; } }", "{ let y = 1; } y;", "1; y(2);",
	} {
		l = append(l, refused{text, read(t, text), api.ErrName})
	}
	return l
}

// P16.1: the errors, each one alone, and ahead of what is told by fuel and cells.
func TestErrors(t *testing.T) {
	for _, l := range [][]refused{noTrees(), notPlain(t), noNames(t)} {
		plain().refuse(t, l)
	}
}

// P16.1: what is wrong here is wrong in more than one way: the first in the order of the promise is told.
func TestErrorsAreWhatTheySay(t *testing.T) {
	for _, r := range notPlain(t) {
		if _, e := core.Check(r.x); e != api.ErrCore && r.x.Nodes[0].Kind == api.Program {
			t.Errorf("%s: %v", r.what, e)
		}
	}
	for _, r := range noNames(t) {
		if _, e := core.Check(r.x); e != api.OK {
			t.Errorf("%s is not plain: %v", r.what, e)
		}
		if _, _, e := bind.Program(r.x); e != api.ErrName {
			t.Errorf("%s: %v", r.what, e)
		}
	}
}

// P16.1, P17.1: whatever node of a good program is spoilt, the slow reading says the same of it.
func TestSpoiltTrees(t *testing.T) {
	text := "let x = 1; class C { v = x; m(a) { return this.v + a; } } print(new C().m(2), `t${x}`, [{a: x}]); for (const y of [x]) { try { x += y; } catch (e) { print(e); } }"
	spoilEach(t, both(), read(t, text), map[api.Errno]int{api.OK: 20, api.ErrTree: 20, api.ErrName: 20})
	text = "enum D { A, B = 2 } const enum E { A = 3, B = \"b\" } namespace N { export const a: number = E.A; export class C<T> { w; constructor(public x?: T, readonly y) { print(this.x as any, y!); } } } print(N, new N.C<D>(D.A, E.B)); interface I { f(z: I): D }"
	spoilEach(t, []face{typed()}, read(t, text), map[api.Errno]int{api.OK: 10, api.ErrTree: 10, api.ErrName: 10, api.ErrType: 5})
}

// spoilEach spoils each node of a tree in each way; what is told is each of these at least so often.
func spoilEach(t *testing.T, faces []face, x api.Tree, least map[api.Errno]int) {
	t.Helper()
	had := map[api.Errno]int{}
	for n := range x.Nodes {
		for _, spoil := range []func(*api.Node){
			func(n *api.Node) { n.Kind++ }, func(n *api.Node) { n.Kind-- }, func(n *api.Node) { n.Num++ }, func(n *api.Node) { n.Num = -1 }, func(n *api.Node) { n.Text = "z" }, func(n *api.Node) { n.Text = "A" }, func(n *api.Node) { n.Text += "=" }, func(n *api.Node) { n.Text = "" }, func(n *api.Node) { n.Kids = nil }, func(n *api.Node) { n.Kids = append(n.Kids, 1) },
		} {
			h := newHanded(x, nil)
			spoil(&h.nodes[n])
			for _, f := range faces {
				had[agreesAs(t, f, "spoilt", api.Tree{Nodes: h.nodes}, nil, 500, 100).err]++
			}
		}
	}
	for e, count := range least {
		if had[e] < count {
			t.Errorf("%v: only %d", e, had[e])
		}
	}
}
