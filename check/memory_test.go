package check_test

import (
	"reflect"
	"slices"
	"testing"

	"shuck/api"
	"shuck/check"
)

// roomy is a tree with room behind each list, and something in it.
func roomy(t api.Tree) api.Tree {
	l := slices.Clone(t.Nodes)
	for i := range l {
		kids := append(slices.Clone(l[i].Kids), -77, -78, -79)
		l[i].Kids = kids[:len(kids)-3]
	}
	l = append(l, api.Node{Kind: -77, Text: "behind", Kids: []int{-7}}, api.Node{Kind: -78})
	return api.Tree{Nodes: l[:len(l)-2]}
}

// everything is all that a tree's lists have, their room too.
func everything(t api.Tree) []api.Node {
	l := slices.Clone(t.Nodes[:cap(t.Nodes)])
	for i := range l {
		l[i].Kids = slices.Clone(l[i].Kids[:cap(l[i].Kids)])
	}
	return l
}

// spoilAll makes something else of all that a tree's lists have, their room too.
func spoilAll(t api.Tree) {
	l := t.Nodes[:cap(t.Nodes)]
	for i := range l {
		kids := l[i].Kids[:cap(l[i].Kids)]
		for j := range kids {
			kids[j] = -1000 - i
		}
		l[i] = api.Node{Kind: -1000 - i, Text: "spoiled", Num: -5, At: -6}
	}
}

// writeOver makes something else of all that an answer's list has, its room too.
func writeOver(c api.Checked) {
	l := c.Types[:cap(c.Types)]
	for i := range l {
		l[i] = "spoiled"
	}
}

// handedIn are programs that are taken, ones with nodes that offend, ones that are too complex, and what is none.
func handedIn(t *testing.T) []api.Tree {
	all := append(noTrees(), read(t, "type Big = "+nested(api.MaxSize+1)+";"), read(t, "x;"))
	g := newGrower(6)
	for n := range 60 {
		if _, x, ok := typedTree(uint64(8000+n), 1+n%5, 20); ok {
			all = append(all, x)
		}
		x, _ := lay(g.grow("Program", 3))
		all = append(all, x)
		if x, ok := g.good(t, 3+n%4, map[string]int{}); ok {
			all = append(all, x)
		}
	}
	return all
}

// P12.4: nothing that is handed in changes, not even the room behind a list's end, neither at the call nor when the answer is written over.
func TestNothingChanged(t *testing.T) {
	for _, x := range handedIn(t) {
		y := roomy(x)
		before := everything(y)
		c := check.Program(y)
		if !reflect.DeepEqual(everything(y), before) {
			t.Fatalf("changed: %v", x)
		}
		writeOver(c)
		if !reflect.DeepEqual(everything(y), before) {
			t.Fatalf("the answer shares with %v", x)
		}
	}
}

// P12.4: an answer stays what it was, whatever becomes of what was handed in and of another answer; nothing is kept from one call to the next.
func TestAnswersAreNew(t *testing.T) {
	for _, x := range handedIn(t) {
		y := roomy(x)
		c := check.Program(y)
		want := api.Checked{Err: c.Err, Node: c.Node, Types: slices.Clone(c.Types)}
		writeOver(check.Program(y))
		spoilAll(y)
		if !slices.Equal(c.Types, want.Types) {
			t.Fatalf("the answer of %v shares", x)
		}
		if again := check.Program(x); again.Err != want.Err || again.Node != want.Node || !slices.Equal(again.Types, want.Types) {
			t.Fatalf("another answer of %v", x)
		}
	}
}

// P12.4: the calls of several goroutines, on one tree, do not touch each other.
func TestSideBySide(t *testing.T) {
	_, x, _ := typedTree(5, 8, 20)
	want := check.Program(x)
	done := make(chan bool)
	for range 8 {
		go func() {
			same := true
			for range 20 {
				c := check.Program(x)
				same = same && c.Err == want.Err && c.Node == want.Node && slices.Equal(c.Types, want.Types)
			}
			done <- same
		}()
	}
	for range 8 {
		if !<-done {
			t.Error("another answer")
		}
	}
}
