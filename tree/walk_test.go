package tree_test

import (
	"math"
	"slices"
	"testing"

	"shuck/api"
	"shuck/tree"
)

// step is what Walk hands on.
type step struct{ n, deep int }

func walked(t api.Tree) []step {
	var all []step
	for n, deep := range tree.Walk(t) {
		all = append(all, step{n, deep})
	}
	return all
}

func found(t api.Tree, n, kind int) []int { return slices.Collect(tree.Find(t, n, kind)) }

// slowWalk is the nodes beneath one and itself, by calls.
func slowWalk(t api.Tree, n, deep int) []step {
	all := []step{{n, deep}}
	for _, k := range t.Nodes[n].Kids {
		all = append(all, slowWalk(t, k, deep+1)...)
	}
	return all
}

// slowFind is the nodes of a kind beneath one, none beneath another of them, by calls.
func slowFind(t api.Tree, n, kind int) []int {
	var all []int
	for _, k := range t.Nodes[n].Kids {
		if t.Nodes[k].Kind == kind {
			all = append(all, k)
		} else {
			all = append(all, slowFind(t, k, kind)...)
		}
	}
	return all
}

// refusedTrees are trees that Check refuses, in all ways.
func refusedTrees() []api.Tree {
	g := newGrower(17)
	all := []api.Tree{{}, {Nodes: []api.Node{}}, {Nodes: []api.Node{{}}}, {Nodes: []api.Node{{Kind: api.Bang, Kids: []int{0}}}}, {Nodes: []api.Node{{Kind: api.None}, {Kind: api.None}}}}
	for _, x := range grown(200, 3) {
		if x = g.spoil(x); len(x.Nodes) == 0 {
			continue
		}
		if _, e := tree.Check(x); e != api.OK {
			all = append(all, x)
		}
	}
	return all
}

// P3.5: the chapter's examples.
func TestWalkExamples(t *testing.T) {
	if got, want := walked(first()), []step{{0, 0}, {1, 1}, {2, 2}}; !slices.Equal(got, want) {
		t.Error(got)
	}
	if got := found(first(), 0, api.Num); !slices.Equal(got, []int{2}) {
		t.Error(got)
	}
	if got := tree.Depth(first()); got != 2 {
		t.Error(got)
	}
	if got := tree.Depth(node(api.None, "", 0)); got != 0 {
		t.Error(got)
	}
}

// P3.5: every node, rising, with how deep it stands; the deepest.
func TestWalk(t *testing.T) {
	for _, x := range grown(500, 5) {
		got, want := walked(x), slowWalk(x, 0, 0)
		if !slices.Equal(got, want) {
			t.Errorf("%v: %v, want %v", x, got, want)
		}
		deepest := 0
		for i, s := range want {
			if deepest = max(deepest, s.deep); s.n != i {
				t.Fatalf("%v: %v", x, want)
			}
		}
		if d := tree.Depth(x); d != deepest {
			t.Errorf("%v: %d, want %d", x, d, deepest)
		}
	}
}

// P3.5: nodes of a kind beneath each node.
func TestFind(t *testing.T) {
	for _, x := range grown(120, 4) {
		for n := range x.Nodes {
			for kind := range 90 {
				if got, want := found(x, n, kind), slowFind(x, n, kind); !slices.Equal(got, want) {
					t.Errorf("%d, %d of %v: %v, want %v", n, kind, x, got, want)
				}
			}
		}
	}
}

// P3.5: a kind beneath another of that kind, beneath one that is of that kind itself, and beside.
func TestFindBeneath(t *testing.T) {
	// Array 0 [Array 1 [Array 2 [This 3], This 4], This 5, Bang 6 [Array 7 [Array 8]], Array 9]
	this := node(api.This, "", 0)
	array := func(kids ...api.Tree) api.Tree { return node(api.Array, "", 0, kids...) }
	x := array(array(array(this), this), this, node(api.Bang, "", 0, array(array())), array())
	for _, c := range []struct {
		n, kind int
		want    []int
	}{
		{0, api.Array, []int{1, 7, 9}}, {1, api.Array, []int{2}}, {2, api.Array, nil}, {6, api.Array, []int{7}}, {7, api.Array, []int{8}}, {8, api.Array, nil}, {9, api.Array, nil},
		{0, api.This, []int{3, 4, 5}}, {1, api.This, []int{3, 4}}, {2, api.This, []int{3}}, {3, api.This, nil}, {5, api.This, nil}, {6, api.This, nil},
		{0, api.Bang, []int{6}}, {6, api.Bang, nil}, {1, api.Bang, nil},
		{0, api.Name, nil}, {0, 0, nil}, {0, -1, nil}, {0, 99, nil}, {0, math.MaxInt, nil}, {0, math.MinInt, nil},
		{-1, api.Array, nil}, {10, api.Array, nil}, {11, api.Array, nil}, {math.MaxInt, api.Array, nil}, {math.MinInt, api.Array, nil}, {-1, api.This, nil}, {10, api.This, nil},
	} {
		if got := found(x, c.n, c.kind); !slices.Equal(got, c.want) {
			t.Errorf("%d, %d: %v, want %v", c.n, c.kind, got, c.want)
		}
	}
}

// P3.5: of what Check refuses nothing is gone through.
func TestWalkRefused(t *testing.T) {
	for _, x := range refusedTrees() {
		if got := walked(x); len(got) != 0 {
			t.Errorf("Walk of %v: %v", x, got)
		}
		if d := tree.Depth(x); d != 0 {
			t.Errorf("Depth of %v: %d", x, d)
		}
		for n := -1; n <= len(x.Nodes); n++ {
			for _, kind := range []int{api.None, api.List, api.Name, api.Array, api.Block, 0, 99} {
				if got := found(x, n, kind); len(got) != 0 {
					t.Errorf("Find %d, %d of %v: %v", n, kind, x, got)
				}
			}
		}
	}
}

// P3.5: an iterator is never nil.
func TestIteratorsAreThere(t *testing.T) {
	for _, x := range append(refusedTrees(), grown(20, 2)...) {
		for _, n := range []int{-1, 0, len(x.Nodes)} {
			if tree.Walk(x) == nil || tree.Find(x, n, api.None) == nil {
				t.Errorf("nil of %v", x)
			}
		}
	}
}

// P3.5: left anywhere, nothing more is handed on; then gone through again.
func TestIteratorsLeft(t *testing.T) {
	for _, x := range append(grown(60, 4), refusedTrees()...) {
		all, want := tree.Walk(x), walked(x)
		for n := range want {
			var got []step
			all(func(k, deep int) bool {
				got = append(got, step{k, deep})
				return len(got) <= n
			})
			if !slices.Equal(got, want[:n+1]) {
				t.Errorf("Walk left at %d: %v, want %v", n, got, want[:n+1])
			}
		}
		for _, kind := range []int{api.List, api.Name, api.None, api.TypeName} {
			all, want := tree.Find(x, 0, kind), found(x, 0, kind)
			for n := range want {
				var got []int
				all(func(k int) bool {
					got = append(got, k)
					return len(got) <= n
				})
				if !slices.Equal(got, want[:n+1]) {
					t.Errorf("Find left at %d: %v, want %v", n, got, want[:n+1])
				}
			}
			if got := slices.Collect(all); !slices.Equal(got, want) {
				t.Errorf("Find again: %v, want %v", got, want)
			}
		}
	}
}

// P3.5: loops over one iterator, one inside another, and one behind another.
func TestIteratorsNested(t *testing.T) {
	for _, x := range grown(20, 3) {
		if len(x.Nodes) > 40 {
			continue
		}
		all, want := tree.Walk(x), walked(x)
		finds, wantFinds := tree.Find(x, 0, api.List), found(x, 0, api.List)
		for range 2 {
			var outer []step
			for n, deep := range all {
				outer = append(outer, step{n, deep})
				var inner []step
				for k, d := range all {
					if inner = append(inner, step{k, d}); k == n {
						break
					}
				}
				if !slices.Equal(inner, want[:n+1]) {
					t.Errorf("Walk within %d: %v", n, inner)
				}
				if got := slices.Collect(finds); !slices.Equal(got, wantFinds) {
					t.Errorf("Find within %d: %v", n, got)
				}
			}
			if !slices.Equal(outer, want) {
				t.Errorf("%v, want %v", outer, want)
			}
			var outerFinds []int
			for n := range finds {
				outerFinds = append(outerFinds, n)
				if got := slices.Collect(finds); !slices.Equal(got, wantFinds) {
					t.Errorf("Find within Find: %v", got)
				}
			}
			if !slices.Equal(outerFinds, wantFinds) {
				t.Errorf("%v, want %v", outerFinds, wantFinds)
			}
		}
	}
}
