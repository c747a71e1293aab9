package core_test

import (
	"math"
	"strings"
	"testing"

	"shuck/api"
	"shuck/core"
	"shuck/tree"
)

// checks holds what Check answers against what it must.
func checks(t *testing.T, about string, x api.Tree, want int, wantErr api.Errno) {
	t.Helper()
	if n, e := core.Check(x); n != want || e != wantErr {
		t.Errorf("Check of %s: %d, %v, want %d, %v", about, n, e, want, wantErr)
	}
}

// P5.1: texts whose trees are plain.
func TestCheckPlain(t *testing.T) {
	for _, text := range []string{
		"",
		";",
		"let x = 1;",
		"const x = a.b[0](1, `a${b}c`);",
		"function f(a, b) { return a; }",
		"class C {}",
		"class C extends B { x = 1; m(a) { super.m(a); } constructor(a) { super(a); } }",
		"let f = (a, b) => a; let g = a => {};",
		"let o = {a: 1, b}; o.a = new A.B(1); throw !o ? this : [null, undefined];",
		"for (let i = 0; i < 1; i += 1) { continue; } for (const x of y) { break; } for (;;) {}",
		"try { while (true) {} } catch (e) { if (e) {} else if (f) {} } finally { return; }",
	} {
		checks(t, text, read(t, text), -1, api.OK)
	}
}

// P5.1: texts with the first node that is not plain: its number, and what it is.
func TestCheckFirst(t *testing.T) {
	x := newTable()
	for _, c := range []struct {
		text string
		n    int
		want string
	}{
		{"let x: number = 1;", 1, "Var x"},
		{"const x: A = 1;", 1, "Var x"},
		{"for (let i: A = 0;;) {}", 2, "Var i"},
		{"f<A>(1);", 2, "Call"},
		{"new A<B>();", 2, "New"},
		{"new A.C<B, D>();", 2, "New"},
		{"x as A;", 2, "As"},
		{"x!;", 2, "Bang"},
		{"x.y!;", 2, "Bang"},
		{"x!.y;", 3, "Bang"},
		{"f(a, b as C);", 7, "As"},
		{"enum E {}", 1, "Enum E"},
		{"const enum E { A = 1 }", 1, "Enum E"},
		{"namespace N {}", 1, "Namespace N"},
		{"namespace N { export const x = 1; }", 1, "Namespace N"},
		{"interface I {}", 1, "Interface I"},
		{"type T = 1;", 1, "Alias T"},
		{"{ { type T = 1; } }", 3, "Alias T"},
		{"function f<T>() {}", 1, "Func f"},
		{"function f(): A {}", 1, "Func f"},
		{"function f(a?) {}", 4, "Param a"},
		{"function f(a, b: A) {}", 6, "Param b"},
		{"let f = <T>() => 1;", 3, "Arrow"},
		{"let f = (a: A) => 1;", 6, "Param a"},
		{"let f = (a?) => 1;", 6, "Param a"},
		{"class C<T> {}", 1, "Class C"},
		{"class C implements I {}", 1, "Class C"},
		{"class C extends B<A> {}", 3, "Base B"},
		{"class C { x; }", 6, "Field x"},
		{"class C { x: A = 1; }", 6, "Field x"},
		{"class C { readonly x = 1; }", 6, "Field x"},
		{"class C { y = 1; x; }", 9, "Field x"},
		{"class C { m<T>() {} }", 6, "Method m"},
		{"class C { m(): A {} }", 6, "Method m"},
		{"class C { m(a: A) {} }", 9, "Param a"},
		{"class C { m(a?) {} }", 9, "Param a"},
		{"class C { constructor(a?) {} }", 8, "Param a"},
		{"class C { constructor(public a) {} }", 8, "Param a"},
		{"class C { constructor(readonly a) {} }", 8, "Param a"},
		{"class C { constructor(a, b: A) {} }", 10, "Param b"},
		{"let a = 1; let b: A = 2; let c: A = 3;", 4, "Var b"},
		{"let a = b!; let c: A = 3;", 3, "Bang"},
		{"let c: A = b!;", 1, "Var c"},
		{"f<A>(x!);", 2, "Call"},
		{"g(x!); f<A>();", 6, "Bang"},
		{"class C<T> extends B<T> { x: T; }", 1, "Class C"},
		{"class C extends B<A> { x; }", 3, "Base B"},
		{"function f(a: A): B {}", 1, "Func f"},
		{"if (a) { b!; } else { enum E {} }", 5, "Bang"},
		{"`a${b as C}d`;", 4, "As"},
		{"try {} catch (e) { x = y as Z; }", 8, "As"},
		{"for (const x of y as Z) { let w: V = 1;}", 2, "As"},
	} {
		p := read(t, c.text)
		checks(t, c.text, p, c.n, api.ErrCore)
		if y := p.Nodes[c.n]; strings.TrimSpace(x.kinds[y.Kind].word+" "+y.Text) != c.want {
			t.Errorf("%q: the node %d is %v, want %s", c.text, c.n, y, c.want)
		}
	}
}

// P5.1: a tree of each kind, with nothing in it that need not be there: the root itself is plain or not, or what must stand beneath it.
func TestCheckKinds(t *testing.T) {
	low := grower{newTable(), func(int) int { return 0 }}
	none := func(y thing) thing { // with None where it may be
		r := low.words[y.word]
		for i, place := range strings.Fields(r.kids) {
			if strings.HasSuffix(place, "/-") && low.place(y, i) != "v" {
				y.kids[i] = thing{word: "-"}
			}
		}
		return y
	}
	for _, r := range rows() {
		want, e := -1, api.OK
		if has(notPlain, r.word) {
			want, e = 0, api.ErrCore
		}
		x := low.treeOf(none(low.grow(r.word, 0)))
		if n, bad := tree.Check(x); bad != api.OK {
			t.Fatalf("%s: no tree, %d", tell(x), n)
		}
		checks(t, tell(x), x, want, e)
	}
}

// P5.1: each place of a type, with something in it and without; each Num; a value that lacks.
func TestCheckPlaces(t *testing.T) {
	x := newTable()
	list := func(kids ...thing) thing { return thing{word: "L", kids: kids} }
	a, none, block := thing{word: "Name", text: "a"}, thing{word: "-"}, thing{word: "Block"}
	named := thing{word: "TypeName", text: "A", kids: []thing{list()}}
	param := thing{word: "TypeParam", text: "T"}
	field := thing{word: "Field", text: "f", kids: []thing{none, a}}
	base := thing{word: "Base", text: "B", kids: []thing{list()}}
	of := func(word, text string, kids ...thing) thing { return thing{word: word, text: text, kids: kids} }
	for _, c := range []struct {
		plain thing
		kid   int
		typed thing // in place of that kid
	}{
		{of("Arrow", "", list(), list(), a), 0, list(param)},
		{of("Func", "f", list(), list(), none, block), 0, list(param)},
		{of("Func", "f", list(), list(), none, block), 2, named},
		{of("Method", "f", list(), list(), none, block), 0, list(param, param)},
		{of("Method", "f", list(), list(), none, block), 2, named},
		{of("Class", "C", list(), base, list(), list(field)), 0, list(param)},
		{of("Class", "C", list(), none, list(), list(field)), 2, list(named)},
		{of("Call", "", a, list(), list(a)), 1, list(named)},
		{of("New", "", a, list(), list(a)), 1, list(named, named)},
		{base, 0, list(named)},
		{of("Var", "v", none, a), 0, named},
		{field, 0, named},
		{field, 1, none},
		{of("Param", "p", none), 0, named},
	} {
		p := x.treeOf(c.plain)
		checks(t, tell(p), p, -1, api.OK)
		c.plain.kids = append([]thing(nil), c.plain.kids...)
		c.plain.kids[c.kid] = c.typed
		p = x.treeOf(c.plain)
		checks(t, tell(p), p, 0, api.ErrCore)
	}
	for num := 1; num < 8; num++ {
		p := x.treeOf(thing{"Param", "p", num, 0, []thing{none}})
		checks(t, tell(p), p, 0, api.ErrCore)
	}
	p := x.treeOf(thing{"Field", "f", api.Readonly, 0, []thing{none, a}})
	checks(t, tell(p), p, 0, api.ErrCore)
	// A Var is as plain with the one Num as with the other; so is a ForOf.
	p = x.treeOf(thing{"Var", "f", api.Const, 0, []thing{none, a}})
	checks(t, tell(p), p, -1, api.OK)
	p = x.treeOf(thing{"ForOf", "f", api.Const, 0, []thing{a, block}})
	checks(t, tell(p), p, -1, api.OK)
	// Lists of what is plain may be full; a List at the root may have anything.
	p = x.treeOf(list(list(a), list(field), block, none, of("Call", "", a, list(), list(a, a))))
	checks(t, tell(p), p, -1, api.OK)
	p = x.treeOf(list(list(a), list(field), list(none, param)))
	checks(t, tell(p), p, 9, api.ErrCore)
}

// exported is an exported Alias within something, which only a Namespace may have.
func exported(word string) thing {
	alias := thing{word: "Alias", text: "T", kids: []thing{{word: "L"}, {word: "TypeNum"}}}
	return thing{word: word, kids: []thing{{word: "Export", kids: []thing{alias}}}}
}

// refused are what chapter 3's Check refuses, each with its node.
func refused() []struct {
	about string
	x     api.Tree
	n     int
} {
	typed := newTable().treeOf(thing{word: "Program", kids: []thing{
		{word: "Eval", kids: []thing{{word: "Bang", kids: []thing{{word: "Name", text: "a"}}}}},
		{word: "Eval", kids: []thing{{word: "Name", text: "b"}}},
	}})
	return []struct {
		about string
		x     api.Tree
		n     int
	}{
		{"no nodes", api.Tree{}, 0},
		{"an empty list", api.Tree{Nodes: []api.Node{}}, 0},
		{"no kind", api.Tree{Nodes: []api.Node{{}}}, 0},
		{"a wrong kind", api.Tree{Nodes: []api.Node{{Kind: 9}}}, 0},
		{"a kind below 0", api.Tree{Nodes: []api.Node{{Kind: math.MinInt}}}, 0},
		{"no name", turned(typed, func(l []api.Node) { l[5].Text = "in" }), 5},
		{"a Num where none is", turned(typed, func(l []api.Node) { l[2].Num = 1 }), 2},
		{"kids that are not laid out", turned(typed, func(l []api.Node) { l[0].Kids = []int{4, 1} }), 0},
		{"a kid outside", turned(typed, func(l []api.Node) { l[4].Kids[0] = 6 }), 4},
		{"a kid below 0", turned(typed, func(l []api.Node) { l[4].Kids[0] = -1 }), 4},
		{"a kid as far as it goes", turned(typed, func(l []api.Node) { l[4].Kids[0] = math.MaxInt }), 4},
		{"a node in itself", turned(typed, func(l []api.Node) { l[2].Kids[0] = 2 }), 2},
		{"a Bang in itself", api.Tree{Nodes: []api.Node{{Kind: api.Bang, Kids: []int{0}}}}, 0},
		{"an As round about", api.Tree{Nodes: []api.Node{{Kind: api.As, Kids: []int{1, 2}}, {Kind: api.Bang, Kids: []int{0}}, {Kind: api.TypeNum}}}, 1},
		{"a Bang of a type", api.Tree{Nodes: []api.Node{{Kind: api.Bang, Kids: []int{1}}, {Kind: api.TypeNum}}}, 0},
		{"no kid", turned(typed, func(l []api.Node) { l[2].Kids = nil }), 2},
		{"a kid twice", turned(typed, func(l []api.Node) { l[0].Kids = []int{1, 1} }), 0},
		{"a node more", turned(typed, func(l []api.Node) { l[0].Kids = []int{1} }), 4},
		{"an Interface where none may be", api.Tree{Nodes: []api.Node{{Kind: api.Eval, Kids: []int{1}}, {Kind: api.Interface}}}, 0},
		{"a Field without kids", api.Tree{Nodes: []api.Node{{Kind: api.List, Kids: []int{1}}, {Kind: api.Field, Text: "f"}}}, 1},
		{"an Export without a kid", api.Tree{Nodes: []api.Node{{Kind: api.Namespace, Text: "N", Kids: []int{1}}, {Kind: api.Export}}}, 1},
		{"an Export in a Program", newTable().treeOf(exported("Program")), 0},
		{"an Export in a Block", newTable().treeOf(exported("Block")), 0},
		{"a Class without kids", api.Tree{Nodes: []api.Node{{Kind: api.Class, Text: "N"}}}, 0},
		{"a Param with a wrong Num", api.Tree{Nodes: []api.Node{{Kind: api.Param, Text: "N", Num: 8, Kids: []int{1}}, {Kind: api.None}}}, 0},
	}
}

// P5.1: what chapter 3 refuses, with its node, also if a node ahead of it is not plain.
func TestCheckRefused(t *testing.T) {
	for _, c := range refused() {
		if n, e := tree.Check(c.x); n != c.n || e != api.ErrTree {
			t.Fatalf("%s: the tree's own Check says %d, %v", c.about, n, e)
		}
		checks(t, c.about, c.x, c.n, api.ErrTree)
	}
}

// P5.1: trees by chance, against the chapter's words gone through slowly; and spoiled ones.
func TestCheckByChance(t *testing.T) {
	x := newTable()
	for _, y := range grown(400, 4) {
		if n, e := tree.Check(y); e != api.OK {
			t.Fatalf("%d of %v is none", n, y)
		}
		n, e := x.check(y)
		checks(t, tell(y), y, n, e)
		spoiled := turned(y, func(l []api.Node) { l[len(l)-1].Kids = []int{0} })
		n, e = tree.Check(spoiled)
		checks(t, "a spoiled one", spoiled, n, e)
	}
}
