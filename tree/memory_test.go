package tree_test

import (
	"reflect"
	"slices"
	"testing"
	"unsafe"

	"shuck/api"
	"shuck/tree"
)

// roomy is a tree with room behind each list, and something in it.
func roomy(t api.Tree) api.Tree {
	l := slices.Clone(t.Nodes)
	for i := range l {
		kids := append(slices.Clone(l[i].Kids), -77, -78, -79)
		l[i].Kids = kids[:len(kids)-3]
	}
	l = append(l, api.Node{Kind: -77, Text: "behind", Kids: []int{-7}}, api.Node{Kind: -78})
	return api.Tree{Nodes: l[:len(l)-2]}
}

// everything is all that a tree's lists have, their room too.
func everything(t api.Tree) [][]int {
	var all [][]int
	for _, x := range t.Nodes[:cap(t.Nodes)] {
		all = append(all, []int{x.Kind, x.Num, x.At, len(x.Text), len(x.Kids)}, slices.Clone(x.Kids[:cap(x.Kids)]))
	}
	return all
}

// spoilAll makes something else of all that a tree's lists have, their room too.
func spoilAll(t api.Tree) {
	l := t.Nodes[:cap(t.Nodes)]
	for i := range l {
		kids := l[i].Kids[:cap(l[i].Kids)]
		for j := range kids {
			kids[j] = -1000 - i
		}
		l[i] = api.Node{Kind: -1000 - i, Text: "spoiled", Num: -5, At: -6}
	}
}

// P3.8: nothing that is handed in changes, not even the room behind a list's end.
func TestNothingChanged(t *testing.T) {
	for _, plain := range append(grown(60, 3), refusedTrees()[2:40]...) {
		x, y := roomy(plain), roomy(plain)
		root := api.Node{Kind: api.List, Text: "x", Kids: x.Nodes[0].Kids}
		kids := []api.Tree{x, y, {Nodes: []api.Node{{Kind: -9}}}}
		before, beforeY := everything(x), everything(y)
		tree.Check(x)
		tree.Same(x, y)
		tree.Make(root, kids[:2]...)
		tree.Depth(x)
		walked(x)
		for n := -1; n <= len(x.Nodes); n++ {
			tree.Sub(x, n)
			found(x, n, api.List)
		}
		if !reflect.DeepEqual(everything(x), before) || !reflect.DeepEqual(everything(y), beforeY) || kids[2].Nodes[0].Kind != -9 || len(kids[2].Nodes) != 1 {
			t.Errorf("changed: %v", plain)
		}
	}
}

// P3.8: an answer stays what it was, whatever becomes of what was handed in, and the other way round.
func TestAnswersAreNew(t *testing.T) {
	for _, plain := range grown(60, 3) {
		for n := range plain.Nodes {
			x := roomy(plain)
			sub, _ := tree.Sub(x, n)
			other, _ := tree.Sub(x, n)
			root := api.Node{Kind: api.List, Kids: x.Nodes[n].Kids}
			made := tree.Make(root, x, x)
			again := tree.Make(root, x, x)
			wantSub, wantMade, wantX := nodes(sub), nodes(made), nodes(plain)
			spoilAll(other)
			spoilAll(again)
			if !reflect.DeepEqual(nodes(x), wantX) {
				t.Fatalf("answers share with what was handed in: %v", x)
			}
			spoilAll(x)
			if !reflect.DeepEqual(nodes(sub), wantSub) || !reflect.DeepEqual(nodes(made), wantMade) {
				t.Fatalf("answers share with others: %v, %v", sub, made)
			}
		}
	}
}

// P3.8: no two lists of an answer share anything, their room too.
func TestListsAreApart(t *testing.T) {
	for _, plain := range grown(60, 3) {
		x := roomy(plain)
		sub, _ := tree.Sub(x, 0)
		for _, answer := range []api.Tree{sub, tree.Make(api.Node{Kind: api.List, Kids: []int{4, 5}}, x, x)} {
			for i, n := range answer.Nodes {
				kids := n.Kids[:cap(n.Kids)]
				for j := range kids {
					kids[j] = i
				}
			}
			for i, n := range answer.Nodes {
				if slices.ContainsFunc(n.Kids[:cap(n.Kids)], func(k int) bool { return k != i }) {
					t.Fatalf("node %d's Kids are another's: %v", i, answer)
				}
			}
		}
	}
}

// P3.8: texts are new memory too.
func TestTextsAreNew(t *testing.T) {
	text := string([]byte("abc"))
	x := node(api.Bang, "", 0, node(api.Name, text, 0))
	sub, _ := tree.Sub(x, 1)
	made := tree.Make(api.Node{Kind: api.Member, Text: text}, x)
	for _, s := range []string{sub.Nodes[0].Text, made.Nodes[0].Text, made.Nodes[2].Text} {
		if s != "abc" || unsafe.StringData(s) == unsafe.StringData(text) {
			t.Errorf("%q is what was handed in", s)
		}
	}
}

// P3.8: iterators go through what there was when they were made.
func TestIteratorsKeepNothing(t *testing.T) {
	for _, plain := range grown(60, 3) {
		wantSteps, wantFinds := walked(plain), found(plain, 0, api.Name)
		x := copied(plain)
		steps, finds := tree.Walk(x), tree.Find(x, 0, api.Name)
		spoilAll(x)
		for range 2 {
			var got []step
			for n, deep := range steps {
				got = append(got, step{n, deep})
			}
			if !slices.Equal(got, wantSteps) {
				t.Errorf("Walk, changed behind the call: %v, want %v", got, wantSteps)
			}
			if got := slices.Collect(finds); !slices.Equal(got, wantFinds) {
				t.Errorf("Find, changed behind the call: %v, want %v", got, wantFinds)
			}
		}
		// What was refused stays so.
		bad := turned(plain, func(l []api.Node) { l[0].Kind = 99 })
		steps, finds = tree.Walk(bad), tree.Find(bad, 0, api.Name)
		bad.Nodes[0].Kind = plain.Nodes[0].Kind
		for range steps {
			t.Fatal("Walk of what was refused when it was made")
		}
		for range finds {
			t.Fatal("Find of what was refused when it was made")
		}
	}
}

// P3.8: nor does a change within the loop reach them.
func TestIteratorsWhileChanged(t *testing.T) {
	for _, plain := range grown(60, 3) {
		x := copied(plain)
		var got []step
		for n, deep := range tree.Walk(x) {
			got = append(got, step{n, deep})
			spoilAll(x)
		}
		if want := walked(plain); !slices.Equal(got, want) {
			t.Errorf("Walk, changed in the loop: %v, want %v", got, want)
		}
		x = copied(plain)
		var finds []int
		for n := range tree.Find(x, 0, api.List) {
			finds = append(finds, n)
			spoilAll(x)
		}
		if want := found(plain, 0, api.List); !slices.Equal(finds, want) {
			t.Errorf("Find, changed in the loop: %v, want %v", finds, want)
		}
	}
}
