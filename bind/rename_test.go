package bind_test

import (
	"slices"
	"testing"

	"shuck/api"
)

// others are names that a program by chance has not.
var others = []string{"z", "zz", "A", "$", "_1", "number", "constructor1", "undefined1", "prototype", "__proto__", "toString", "n"}

// named are the nodes by their names: declarations and uses.
func named(x api.Tree) (declared, used map[string][]int) {
	declared, used = map[string][]int{}, map[string][]int{}
	s := newSlow(x)
	for n, node := range x.Nodes {
		switch {
		case s.declares(n):
			declared[node.Text] = append(declared[node.Text], n)
		case s.uses(n):
			used[node.Text] = append(used[node.Text], n)
		}
	}
	return declared, used
}

// has tells whether a program has a name, be it that of a type or of a member.
func has(x api.Tree, name string) bool {
	return slices.ContainsFunc(x.Nodes, func(n api.Node) bool { return n.Text == name })
}

// renamed is a program with another name in these nodes.
func renamed(x api.Tree, name string, nodes ...int) api.Tree {
	return turned(x, func(l []api.Node) {
		for _, n := range nodes {
			l[n].Text = name
		}
	})
}

// P7.2: another name in the place of one that is declared once changes no use, in programs by chance.
func TestAnotherName(t *testing.T) {
	g := newGrower(2)
	count := 0
	for n := range 250 {
		x, ok := g.good(t, 3+n%5, map[string]int{})
		if !ok {
			continue
		}
		uses, _, _ := program(t, x)
		declared, used := named(x)
		for name, l := range declared {
			elsewhere := func(at int) bool {
				return slices.ContainsFunc(uses, func(u api.Use) bool { return u.At == at && u.Decl != l[0] })
			}
			if len(l) != 1 || slices.ContainsFunc(used[name], elsewhere) {
				continue
			}
			for _, other := range others {
				if !has(x, other) {
					told(t, name+" is "+other, renamed(x, other, append(l, used[name]...)...), uses, -1, api.OK)
					count++
				}
			}
			// What the surroundings have is a name like any other.
			if !has(x, "input") {
				told(t, name+" is input", renamed(x, "input", append(l, used[name]...)...), uses, -1, api.OK)
			}
		}
	}
	if count < 1000 {
		t.Errorf("only %d", count)
	}
}

// P7.2: what offends offends as before.
func TestAnotherNameOffends(t *testing.T) {
	g := newGrower(3)
	for n := range 400 {
		x, _ := lay(g.grow("Program", 3+n%4))
		if len(x.Nodes) > 250 {
			continue
		}
		uses, node, e := program(t, x)
		declared, used := named(x)
		s := newSlow(x)
		for name, l := range declared {
			if len(l) != 1 || slices.ContainsFunc(used[name], func(at int) bool { return s.standsFor(at) != l[0] }) {
				continue
			}
			told(t, "another name", renamed(x, "zz", append(l, used[name]...)...), uses, node, e)
		}
	}
}
