package bind_test

import (
	"reflect"
	"slices"
	"testing"

	"shuck/api"
	"shuck/bind"
)

// roomy is a tree with room behind each list, and something in it.
func roomy(t api.Tree) api.Tree {
	l := slices.Clone(t.Nodes)
	for i := range l {
		kids := append(slices.Clone(l[i].Kids), -77, -78, -79)
		l[i].Kids = kids[:len(kids)-3]
	}
	l = append(l, api.Node{Kind: -77, Text: "behind", Kids: []int{-7}}, api.Node{Kind: -78})
	return api.Tree{Nodes: l[:len(l)-2]}
}

// everything is all that a tree's lists have, their room too.
func everything(t api.Tree) []api.Node {
	l := slices.Clone(t.Nodes[:cap(t.Nodes)])
	for i := range l {
		l[i].Kids = slices.Clone(l[i].Kids[:cap(l[i].Kids)])
	}
	return l
}

// spoilAll makes something else of all that a tree's lists have, their room too.
func spoilAll(t api.Tree) {
	l := t.Nodes[:cap(t.Nodes)]
	for i := range l {
		kids := l[i].Kids[:cap(l[i].Kids)]
		for j := range kids {
			kids[j] = -1000 - i
		}
		l[i] = api.Node{Kind: -1000 - i, Text: "spoiled", Num: -5, At: -6}
	}
}

// handedIn are programs that are taken, ones with nodes that offend, and what is none.
func handedIn(t *testing.T) []api.Tree {
	all := noTrees()
	g := newGrower(6)
	for n := range 100 {
		x, _ := lay(g.grow("Program", 3))
		all = append(all, x)
		if x, ok := g.good(t, 3+n%4, map[string]int{}); ok {
			all = append(all, x)
		}
	}
	return all
}

// P7.4: nothing that is handed in changes, not even the room behind a list's end, neither at the call nor when the answer is written over.
func TestNothingChanged(t *testing.T) {
	for _, x := range handedIn(t) {
		y := roomy(x)
		before := everything(y)
		uses, _, _ := bind.Program(y)
		if !reflect.DeepEqual(everything(y), before) {
			t.Fatalf("changed: %v", x)
		}
		uses = uses[:cap(uses)]
		for i := range uses {
			uses[i] = api.Use{At: -1, Decl: -2, Late: true}
		}
		if !reflect.DeepEqual(everything(y), before) {
			t.Fatalf("the answer shares with %v", x)
		}
	}
}

// P7.4: an answer stays what it was, whatever becomes of what was handed in and of another answer; nothing is kept from one call to the next.
func TestAnswersAreNew(t *testing.T) {
	for _, x := range handedIn(t) {
		y := roomy(x)
		uses, n, e := bind.Program(y)
		want := slices.Clone(uses)
		other, _, _ := bind.Program(y)
		other = other[:cap(other)]
		for i := range other {
			other[i] = api.Use{At: -1, Decl: -2, Late: true}
		}
		spoilAll(y)
		if !slices.Equal(uses, want) {
			t.Fatalf("the answer of %v shares", x)
		}
		told(t, "again", x, want, n, e)
	}
}

// P7.4: the calls of several goroutines, on one tree, do not touch each other.
func TestSideBySide(t *testing.T) {
	x, _, _ := bindable(t)
	want, n, e := bind.Program(x)
	done := make(chan bool)
	for range 8 {
		go func() {
			same := true
			for range 50 {
				uses, gotN, gotE := bind.Program(x)
				same = same && gotN == n && gotE == e && slices.Equal(uses, want)
			}
			done <- same
		}()
	}
	for range 8 {
		if !<-done {
			t.Error("another answer")
		}
	}
}

// bindable is a program with uses of all sorts.
func bindable(t *testing.T) (api.Tree, int, api.Errno) {
	t.Helper()
	x := read(t, "let a = 1; class C extends print { constructor(b) { super(a, b); } x = C; m() { return a; } } namespace N { export const c = a; () => c; } for (const d of a) { a = d; }")
	_, n, e := bind.Program(x)
	if e != api.OK {
		t.Fatal(n, e)
	}
	return x, n, e
}
