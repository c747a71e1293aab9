package tree_test

import (
	"math"
	"reflect"
	"slices"
	"testing"

	"shuck/api"
	"shuck/tree"
)

// nodes is a tree's nodes with nil for each empty Kids: what reflect can hold against another.
func nodes(t api.Tree) []api.Node {
	l := slices.Clone(t.Nodes)
	for i := range l {
		l[i].Kids = append([]int(nil), l[i].Kids...)
	}
	return l
}

func equal(a, b api.Tree) bool { return reflect.DeepEqual(nodes(a), nodes(b)) }

// slowSub is the tree of a node, by the words: the node, and behind it what stands beneath.
func slowSub(t api.Tree, n int) api.Tree {
	var kids []api.Tree
	for _, k := range t.Nodes[n].Kids {
		kids = append(kids, slowSub(t, k))
	}
	made := node(t.Nodes[n].Kind, t.Nodes[n].Text, t.Nodes[n].Num, kids...)
	made.Nodes[0].At = t.Nodes[n].At
	return made
}

// P3.2: each thing of a node, but At.
func TestSame(t *testing.T) {
	x := node(api.Binary, "+", 0, node(api.Name, "a", 0), node(api.Name, "b", 0))
	for what, f := range map[string]func(l []api.Node){
		"a kind":        func(l []api.Node) { l[1].Kind = api.SuperMember },
		"the root's":    func(l []api.Node) { l[0].Kind = api.Unary },
		"a text":        func(l []api.Node) { l[2].Text = "c" },
		"a number":      func(l []api.Node) { l[2].Num = 1 },
		"a kid's place": func(l []api.Node) { l[0].Kids[1] = 1 },
		"kids turned":   func(l []api.Node) { l[0].Kids = []int{2, 1} },
		"a kid less":    func(l []api.Node) { l[0].Kids = l[0].Kids[:1] },
		"a kid more":    func(l []api.Node) { l[2].Kids = []int{0} },
	} {
		y := turned(x, f)
		if tree.Same(x, y) || tree.Same(y, x) {
			t.Errorf("%s: the same", what)
		}
		if !tree.Same(y, copied(y)) {
			t.Errorf("%s: not the same as itself", what)
		}
	}
	y := turned(x, func(l []api.Node) {
		for i := range l {
			l[i].At = i + 1
		}
		l[1].Kids, l[2].Kids = []int{}, make([]int, 0, 3)
	})
	if !tree.Same(x, y) || !tree.Same(y, x) {
		t.Error("At, or empty Kids, tell trees apart")
	}
}

// P3.2: how many nodes; trees that Check refuses are held against each other all the same.
func TestSameOfAny(t *testing.T) {
	x := first()
	less := api.Tree{Nodes: x.Nodes[:2]}
	if tree.Same(x, less) || tree.Same(less, x) || tree.Same(x, api.Tree{}) || tree.Same(api.Tree{}, x) {
		t.Error("as many nodes are not asked for")
	}
	if !tree.Same(less, copied(less)) || !tree.Same(api.Tree{}, api.Tree{Nodes: []api.Node{}}) || !tree.Same(x, x) {
		t.Error("not the same as itself")
	}
	round := api.Tree{Nodes: []api.Node{{Kind: -7, Kids: []int{0, -1, math.MaxInt}}}}
	if !tree.Same(round, copied(round)) || tree.Same(round, turned(round, func(l []api.Node) { l[0].Kids[1] = 1 })) {
		t.Error("kids that are none")
	}
}

// P3.3: the chapter's example, and kids behind each other.
func TestMake(t *testing.T) {
	x := api.Tree{Nodes: []api.Node{{Kind: api.Name, Text: "x", At: 3}}}
	bang := tree.Make(api.Node{Kind: api.Bang, At: 5}, x)
	if want := []api.Node{{Kind: api.Bang, Kids: []int{1}, At: 5}, {Kind: api.Name, Text: "x", At: 3}}; !reflect.DeepEqual(nodes(bang), want) {
		t.Error(bang)
	}
	root := api.Node{Kind: api.Binary, Text: "+", Num: 9, Kids: []int{7, 8, 9, 10}, At: -2}
	two := tree.Make(root, bang, first())
	want := []api.Node{
		{Kind: api.Binary, Text: "+", Num: 9, Kids: []int{1, 3}, At: -2},
		{Kind: api.Bang, Kids: []int{2}, At: 5}, {Kind: api.Name, Text: "x", At: 3},
		{Kind: api.Program, Kids: []int{4}}, {Kind: api.Eval, Kids: []int{5}}, {Kind: api.Num, Num: 7},
	}
	if !reflect.DeepEqual(nodes(two), want) {
		t.Error(two)
	}
}

// P3.3: kids without a node are left out, wherever they stand; none at all.
func TestMakeOfNothing(t *testing.T) {
	root, x := api.Node{Kind: api.List, Kids: []int{3}}, first()
	want := tree.Make(root, x, x)
	for _, kids := range [][]api.Tree{{{}, x, x}, {x, {}, x}, {x, x, {}}, {{}, x, {Nodes: []api.Node{}}, {}, x, {}}} {
		if got := tree.Make(root, kids...); !equal(got, want) {
			t.Errorf("%v, want %v", got, want)
		}
	}
	for _, kids := range [][]api.Tree{nil, {}, {{}}, {{}, {}}} {
		if got := tree.Make(root, kids...); len(got.Nodes) != 1 || len(got.Nodes[0].Kids) != 0 || got.Nodes[0].Kind != api.List {
			t.Error(got)
		}
	}
}

// P3.3: kids that are no trees are moved along all the same; nothing wraps.
func TestMakeOfAny(t *testing.T) {
	odd := api.Tree{Nodes: []api.Node{{Kind: -4, Text: "\xff", Num: -1, Kids: []int{-1, 0, 5, -3, math.MinInt}, At: 6}, {Kind: api.Prop, Kids: []int{math.MaxInt, math.MaxInt - 1, math.MaxInt - 3, math.MaxInt - 4}}}}
	got := tree.Make(api.Node{Kind: 99, Num: -8}, first(), odd)
	want := []api.Node{
		{Kind: 99, Num: -8, Kids: []int{1, 4}},
		{Kind: api.Program, Kids: []int{2}}, {Kind: api.Eval, Kids: []int{3}}, {Kind: api.Num, Num: 7},
		{Kind: -4, Text: "\xff", Num: -1, Kids: []int{3, 4, 9, 1, math.MinInt + 4}, At: 6},
		{Kind: api.Prop, Kids: []int{math.MaxInt, math.MaxInt, math.MaxInt, math.MaxInt}},
	}
	if !reflect.DeepEqual(nodes(got), want) {
		t.Error(got)
	}
}

// P3.4: every node of trees, and the numbers beside them.
func TestSub(t *testing.T) {
	for _, x := range grown(300, 4) {
		for n := range x.Nodes {
			got, e := tree.Sub(x, n)
			if want := slowSub(x, n); e != api.OK || !equal(got, want) {
				t.Errorf("%d of %v: %v, %v", n, x, got, e)
			}
			if n, e := tree.Check(got); n != -1 || e != api.OK {
				t.Errorf("Check of a Sub: %d, %v", n, e)
			}
		}
		for _, n := range []int{-1, len(x.Nodes), len(x.Nodes) + 1, math.MinInt, math.MaxInt} {
			if got, e := tree.Sub(x, n); e != api.ErrArg || got.Nodes != nil {
				t.Errorf("%d of %d: %v, %v", n, len(x.Nodes), got, e)
			}
		}
	}
}

// P3.4: At is kept.
func TestSubKeepsAt(t *testing.T) {
	x := turned(first(), func(l []api.Node) { l[0].At, l[1].At, l[2].At = 3, -5, 9 })
	got, e := tree.Sub(x, 1)
	if want := []api.Node{{Kind: api.Eval, Kids: []int{1}, At: -5}, {Kind: api.Num, Num: 7, At: 9}}; e != api.OK || !reflect.DeepEqual(nodes(got), want) {
		t.Error(got, e)
	}
}

// P3.4: of what Check refuses there is no Sub, whatever the number.
func TestSubRefused(t *testing.T) {
	g := newGrower(11)
	for _, x := range append(grown(300, 3), api.Tree{}) {
		x = g.spoil(x)
		if _, e := tree.Check(x); e == api.OK {
			continue
		}
		for n := -1; n <= len(x.Nodes); n++ {
			if got, e := tree.Sub(x, n); e != api.ErrTree || got.Nodes != nil {
				t.Errorf("%d of %v: %v, %v", n, x, got, e)
			}
		}
	}
}

// P3.6: a node's Sub is Make of it and of its kids' Subs; the root's is the tree.
func TestMakeOfSubs(t *testing.T) {
	for _, x := range grown(300, 4) {
		for n, root := range x.Nodes {
			var kids []api.Tree
			for _, k := range root.Kids {
				kid, _ := tree.Sub(x, k)
				kids = append(kids, kid)
			}
			want, e := tree.Sub(x, n)
			if got := tree.Make(root, kids...); e != api.OK || !equal(got, want) || !tree.Same(got, want) {
				t.Errorf("%d of %v: %v, want %v", n, x, got, want)
			}
		}
		if whole, e := tree.Sub(x, 0); e != api.OK || !tree.Same(whole, x) || !equal(whole, x) {
			t.Errorf("%v: %v, %v", x, whole, e)
		}
	}
}

// P3.7: of kids that Check takes Make's tree is taken, just if the root alone does not offend.
func TestCheckOfMake(t *testing.T) {
	w, g := newWords(), newGrower(13)
	pool, said, rows := samples(), texts(), lines()
	taken := 0
	for range 60000 {
		row := pick(g, rows...)
		root := api.Node{Kind: row.kind, Text: g.textOf(row), Num: g.numOf(row), Kids: []int{g.choose(9)}}
		switch g.choose(12) {
		case 0:
			root.Text = pick(g, said...)
		case 1:
			root.Num = g.choose(20) - 5
		case 2:
			root.Kind = g.choose(90)
		}
		var kids []api.Tree
		place, _ := places(row, len(row.kids)%5)
		for i := range place {
			if g.choose(6) > 0 {
				kids = append(kids, g.place(place[i], 1))
			} else {
				kids = append(kids, pick(g, pool...))
			}
		}
		made := tree.Make(root, kids...)
		rooted(t, row.word, made, w.fits(made.Nodes, 0))
		if w.fits(made.Nodes, 0) {
			taken++
		}
	}
	if taken < 10000 || taken > 50000 {
		t.Errorf("%d of 60000 taken: too many of one sort", taken)
	}
}
