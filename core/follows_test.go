package core_test

import (
	"testing"

	"shuck/api"
	"shuck/core"
	"shuck/tree"
)

// runTime tells whether a node is not plain, but stays since it makes something at run time.
func runTime(n api.Node) bool {
	switch n.Kind {
	case api.Enum, api.EnumMember, api.Namespace, api.Export:
		return true
	}
	return n.Kind == api.Param && n.Num == api.Public
}

// follows holds a tree that Strip takes against what the chapter says that follows.
func follows(t *testing.T, x api.Tree) {
	t.Helper()
	s := stripped(t, x)
	if again := stripped(t, s); !tree.Same(again, s) || !equal(again, s) {
		t.Errorf("Strip of what Strip makes of %s:\n%s, want\n%s", tell(x), tell(again), tell(s))
	}
	if _, e := core.Check(x); e == api.OK && !equal(s, x) {
		t.Errorf("Strip of what is plain, %s: %s", tell(x), tell(s))
	}
	words := newTable()
	for n, node := range s.Nodes {
		y := words.thingOf(s.Nodes, n)
		if node.Kind == api.Param {
			y.num = 0
		}
		if !words.plain(y) && !runTime(node) {
			t.Errorf("Strip of %s leaves %s", tell(x), words.told(y))
		}
	}
	if n, e := core.Check(s); e != api.OK && !runTime(s.Nodes[n]) {
		t.Errorf("Strip of %s leaves %d, which is not plain: %s", tell(x), n, tell(s))
	}
}

// P5.3: Strip once more changes nothing; what is plain stays; what is left is plain but for what makes something at run time.
func TestFollows(t *testing.T) {
	for _, x := range grown(400, 4) {
		if _, e := core.Strip(x); e == api.OK {
			follows(t, x)
		}
	}
}

// P5.3: plain trees by chance: what is left of any, without what stays for run time.
func TestPlainStays(t *testing.T) {
	words := newTable()
	count := 0
	for _, x := range grown(2000, 3) {
		s, e := core.Strip(x)
		if e != api.OK {
			continue
		}
		if n, e := words.check(s); e == api.OK {
			count++
			checks(t, tell(s), s, n, e)
			if again := stripped(t, s); !equal(again, s) {
				t.Errorf("%s: %s", tell(s), tell(again))
			}
		}
	}
	if count < 500 {
		t.Errorf("only %d plain trees", count)
	}
}

// chain is a tree of nodes one beneath the other: the head, so often; with kids ahead of the one that goes on, and behind it, and the foot at the end.
func chain(count int, head api.Node, ahead, behind []api.Node, foot api.Node) api.Tree {
	var l []api.Node
	var ends []int
	for range count {
		n := len(l)
		l = append(l, head)
		l[n].At = n
		l[n].Kids = nil
		for _, x := range ahead {
			l[n].Kids = append(l[n].Kids, len(l))
			l = append(l, x)
		}
		l[n].Kids = append(l[n].Kids, len(l))
		ends = append(ends, n)
	}
	foot.At = len(l)
	l = append(l, foot)
	for i := len(ends) - 1; i >= 0; i-- {
		for _, x := range behind {
			l[ends[i]].Kids = append(l[ends[i]].Kids, len(l))
			l = append(l, x)
		}
	}
	return api.Tree{Nodes: l}
}

const deepest = 1<<16 - 1

// P5.1 to P5.3: as deep as trees may be.
func TestDeep(t *testing.T) {
	name := api.Node{Kind: api.Name, Text: "a"}
	kind := func(k int) api.Node { return api.Node{Kind: k} }
	for _, c := range []struct {
		about string
		x     api.Tree
		first int // that is not plain
		left  int // how many nodes
	}{
		{"Bang", chain(deepest, kind(api.Bang), nil, nil, name), 0, 1},
		{"As", chain(deepest, kind(api.As), nil, []api.Node{kind(api.TypeNum)}, name), 0, 1},
		{"Unary", chain(deepest, api.Node{Kind: api.Unary, Text: "!"}, nil, nil, name), -1, deepest + 1},
		{"Cond", chain(deepest, kind(api.Cond), []api.Node{name}, []api.Node{name}, name), -1, 3*deepest + 1},
		{"Arrow", chain(deepest, kind(api.Arrow), []api.Node{kind(api.List), kind(api.List)}, nil, name), -1, 3*deepest + 1},
		{"Array", chain(deepest, kind(api.Array), []api.Node{name, name}, []api.Node{name}, kind(api.Null)), -1, 4*deepest + 1},
	} {
		n, e := core.Check(c.x)
		want := api.OK
		if c.first >= 0 {
			want = api.ErrCore
		}
		if n != c.first || e != want {
			t.Errorf("%s: Check %d, %v", c.about, n, e)
		}
		s, e := core.Strip(c.x)
		if e != api.OK || len(s.Nodes) != c.left {
			t.Errorf("%s: %d nodes are left, %v, want %d", c.about, len(s.Nodes), e, c.left)
		} else if c.first < 0 && !equal(s, c.x) {
			t.Errorf("%s: not what it was", c.about)
		} else if c.first >= 0 && s.Nodes[0].At != deepest {
			t.Errorf("%s: %v", c.about, s.Nodes[0])
		}
	}
}

// P5.1, P5.2: Blocks within one another, with something to leave out on every level, and the first that is not plain at the foot of them.
func TestDeepBlocks(t *testing.T) {
	blocks := chain(deepest-1, api.Node{Kind: api.Block}, nil, []api.Node{{Kind: api.Empty}}, api.Node{Kind: api.Enum, Text: "E"})
	blocks.Nodes[0].Kind = api.Program
	checks(t, "deep Blocks", blocks, deepest-1, api.ErrCore)
	if s, e := core.Strip(blocks); e != api.OK || !equal(s, blocks) {
		t.Errorf("deep Blocks: %d nodes, %v", len(s.Nodes), e)
	}
	// The kids of each Block: another one, and an Alias behind it.
	var l []api.Node
	for n := range deepest - 2 {
		l = append(l, api.Node{Kind: api.Block, At: n, Kids: []int{n + 1}})
	}
	l = append(l, api.Node{Kind: api.Empty, At: len(l)})
	l[0].Kind = api.Program
	for n := deepest - 3; n >= 0; n-- {
		at := len(l)
		l[n].Kids = append(l[n].Kids, at)
		l = append(l, api.Node{Kind: api.Alias, Text: "T", Kids: []int{at + 1, at + 2}}, api.Node{Kind: api.List}, api.Node{Kind: api.TypeStr})
	}
	s, e := core.Strip(api.Tree{Nodes: l})
	if e != api.OK || len(s.Nodes) != deepest-1 {
		t.Fatalf("%d nodes, %v", len(s.Nodes), e)
	}
	for n, x := range s.Nodes[:deepest-2] {
		if x.At != n || len(x.Kids) != 1 || x.Kids[0] != n+1 {
			t.Fatalf("the node %d is %v", n, x)
		}
	}
}

// P5.1, P5.2: a wide tree, too, is gone through once.
func TestWide(t *testing.T) {
	l := []api.Node{{Kind: api.Program}}
	for range 200000 {
		n := len(l)
		l[0].Kids = append(l[0].Kids, n)
		l = append(l, api.Node{Kind: api.Eval, Kids: []int{n + 1}, At: n}, api.Node{Kind: api.Bang, Kids: []int{n + 2}}, api.Node{Kind: api.This})
	}
	checks(t, "a wide tree", api.Tree{Nodes: l}, 2, api.ErrCore)
	s, e := core.Strip(api.Tree{Nodes: l})
	if e != api.OK || len(s.Nodes) != 400001 || s.Nodes[399999].At != len(l)-3 {
		t.Errorf("%d nodes, %v", len(s.Nodes), e)
	}
}
