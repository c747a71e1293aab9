package part_test

import (
	"slices"
	"testing"

	"shuck/api"
	"shuck/parse"
	"shuck/part"
	"shuck/tree"
)

// P13.1, P17.1: the tree of each node is chapter 3's Sub, and the nodes stay what they were.
func TestEachNode(t *testing.T) {
	x, _, e := parse.Program([]byte("enum E { A, B = 1 + 2 } namespace N { export function f(a: any) { return [a, `x${E.A}`]; } } ;"))
	if e != api.OK {
		t.Fatal(e)
	}
	before := kids(x)
	for n := range x.Nodes {
		got := part.Tree(x.Nodes, n)
		want, e := tree.Sub(x, n)
		if e != api.OK || !tree.Same(got, want) {
			t.Errorf("%d: %v, not %v", n, got, want)
		}
		for i := range got.Nodes {
			for j := range got.Nodes[i].Kids {
				got.Nodes[i].Kids[j] = -1
			}
		}
	}
	if !slices.EqualFunc(kids(x), before, slices.Equal) {
		t.Error("the kids are changed")
	}
}

func kids(x api.Tree) [][]int {
	var l [][]int
	for _, node := range x.Nodes {
		l = append(l, slices.Clone(node.Kids))
	}
	return l
}
