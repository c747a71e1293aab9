package print_test

import (
	"reflect"
	"slices"
	"testing"
	"unsafe"

	"shuck/api"
	"shuck/print"
	"shuck/tree"
)

// roomy is a tree with room behind each list, and something in it.
func roomy(t api.Tree) api.Tree {
	l := slices.Clone(t.Nodes)
	for i := range l {
		kids := append(slices.Clone(l[i].Kids), -77, -78, -79)
		l[i].Kids = kids[:len(kids)-3]
	}
	l = append(l, api.Node{Kind: -77, Text: "behind", Kids: []int{-7}}, api.Node{Kind: -78})
	return api.Tree{Nodes: l[:len(l)-2]}
}

// everything is all that a tree's lists have, their room too.
func everything(t api.Tree) []api.Node {
	l := slices.Clone(t.Nodes[:cap(t.Nodes)])
	for i := range l {
		l[i].Kids = slices.Clone(l[i].Kids[:cap(l[i].Kids)])
	}
	return l
}

// spoilAll makes something else of all that a tree's lists have, their room too.
func spoilAll(t api.Tree) {
	l := t.Nodes[:cap(t.Nodes)]
	for i := range l {
		kids := l[i].Kids[:cap(l[i].Kids)]
		for j := range kids {
			kids[j] = -1000 - i
		}
		l[i] = api.Node{Kind: -1000 - i, Text: "spoiled", Num: -5, At: -6}
	}
}

// handedIn are trees that are taken and ones that are refused.
func handedIn() []api.Tree {
	all := noTrees()
	g, h := newGrower(3), angled(4)
	for range 150 {
		all = append(all, g.fill("Program", 3), g.fill("E", 3), h.fill("E", 2), h.fill("Eval", 2))
	}
	return append(all, of("Bang [a]"), of("Block"))
}

// P6.5: nothing that is handed in changes, not even the room behind a list's end, and nothing is kept of it.
func TestNothingChanged(t *testing.T) {
	for _, x := range handedIn() {
		y := roomy(x)
		before := everything(y)
		p, e1 := print.Program(y)
		s, e2 := print.Expr(y)
		for _, n := range y.Nodes {
			print.Level(n)
		}
		if !reflect.DeepEqual(everything(y), before) {
			t.Fatalf("changed: %v", x)
		}
		spoilAll(y)
		p2, e3 := print.Program(x)
		s2, e4 := print.Expr(x)
		if p2 != p || s2 != s || e3 != e1 || e4 != e2 {
			t.Fatalf("%v: %q, %v, %q, %v, the second time %q, %v, %q, %v", x, p, e1, s, e2, p2, e3, s2, e4)
		}
	}
}

// P6.5: a text is new memory, even where it is that of one node.
func TestTextIsNew(t *testing.T) {
	name := string([]byte("abc"))
	x := tree.Make(api.Node{Kind: api.Name, Text: name})
	x.Nodes[0].Text = name
	got, e := print.Expr(x)
	if e != api.OK || got != "abc" || unsafe.StringData(got) == unsafe.StringData(name) {
		t.Errorf("%q, %v is what was handed in", got, e)
	}
	again, _ := print.Expr(x)
	if unsafe.StringData(got) == unsafe.StringData(again) {
		t.Error("two answers are one")
	}
	// A word alone is no piece of the program that all answers share.
	one, _ := print.Expr(of("True"))
	two, _ := print.Expr(of("True"))
	if one != "true" || unsafe.StringData(one) == unsafe.StringData(two) {
		t.Error("two answers are one")
	}
}
