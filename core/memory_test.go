package core_test

import (
	"reflect"
	"slices"
	"testing"
	"unsafe"

	"shuck/api"
	"shuck/core"
)

// roomy is a tree with room behind each list, and something in it.
func roomy(t api.Tree) api.Tree {
	l := slices.Clone(t.Nodes)
	for i := range l {
		kids := append(slices.Clone(l[i].Kids), -77, -78, -79)
		l[i].Kids = kids[:len(kids)-3]
	}
	l = append(l, api.Node{Kind: -77, Text: "behind", Kids: []int{-7}}, api.Node{Kind: -78})
	return api.Tree{Nodes: l[:len(l)-2]}
}

// everything is all that a tree's lists have, their room too.
func everything(t api.Tree) []api.Node {
	l := slices.Clone(t.Nodes[:cap(t.Nodes)])
	for i := range l {
		l[i].Kids = slices.Clone(l[i].Kids[:cap(l[i].Kids)])
	}
	return l
}

// spoilAll makes something else of all that a tree's lists have, their room too.
func spoilAll(t api.Tree) {
	l := t.Nodes[:cap(t.Nodes)]
	for i := range l {
		kids := l[i].Kids[:cap(l[i].Kids)]
		for j := range kids {
			kids[j] = -1000 - i
		}
		l[i] = api.Node{Kind: -1000 - i, Text: "spoiled", Num: -5, At: -6}
	}
}

// handedIn are trees that are taken and ones that are refused.
func handedIn() []api.Tree {
	all := grown(60, 3)
	for _, c := range refused() {
		all = append(all, c.x)
	}
	return all
}

// P5.4: nothing that is handed in changes, not even the room behind a list's end, neither at the call nor when the answer is written over.
func TestNothingChanged(t *testing.T) {
	for _, x := range handedIn() {
		y := roomy(x)
		before := everything(y)
		core.Check(y)
		if !reflect.DeepEqual(everything(y), before) {
			t.Fatalf("Check changes %v", x)
		}
		s, _ := core.Strip(y)
		if !reflect.DeepEqual(everything(y), before) {
			t.Fatalf("Strip changes %v", x)
		}
		spoilAll(s)
		if !reflect.DeepEqual(everything(y), before) {
			t.Fatalf("the answer shares with %v", x)
		}
	}
}

// P5.4: an answer stays what it was, whatever becomes of what was handed in and of another answer.
func TestAnswersAreNew(t *testing.T) {
	for _, x := range handedIn() {
		y := roomy(x)
		s, e := core.Strip(y)
		other, _ := core.Strip(y)
		n, bad := core.Check(y)
		want := copied(s)
		spoilAll(other)
		spoilAll(y)
		if !equal(s, want) {
			t.Fatalf("Strip of %v shares", x)
		}
		// Nothing is kept from one call to the next.
		again, e2 := core.Strip(x)
		n2, bad2 := core.Check(x)
		if !equal(again, want) || e2 != e || n2 != n || bad2 != bad {
			t.Fatalf("%v: %v, %d, %v, the second time %v, %d, %v", x, e, n, bad, e2, n2, bad2)
		}
	}
}

// P5.4: no two lists of an answer share anything, their room too.
func TestListsAreApart(t *testing.T) {
	for _, x := range grown(60, 3) {
		s, _ := core.Strip(x)
		for i, n := range s.Nodes {
			kids := n.Kids[:cap(n.Kids)]
			for j := range kids {
				kids[j] = i
			}
		}
		for i, n := range s.Nodes {
			if slices.ContainsFunc(n.Kids[:cap(n.Kids)], func(k int) bool { return k != i }) {
				t.Fatalf("the node %d's Kids are another's: %v", i, s)
			}
		}
	}
}

// P5.4: texts are new memory too.
func TestTextsAreNew(t *testing.T) {
	text := string([]byte("abc"))
	x := newTable().treeOf(thing{word: "Member", text: text, kids: []thing{{word: "Bang", kids: []thing{{word: "Name", text: text}}}}})
	s, e := core.Strip(x)
	if e != api.OK || len(s.Nodes) != 2 {
		t.Fatal(s, e)
	}
	for _, n := range s.Nodes {
		if n.Text != "abc" || unsafe.StringData(n.Text) == unsafe.StringData(text) {
			t.Errorf("%q is what was handed in", n.Text)
		}
	}
}
