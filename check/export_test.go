package check

import (
	"shuck/api"
	"shuck/bind"
)

// Offences is all nodes that offend, not the first one alone; none, if something is too complex.
func Offences(t api.Tree) []int {
	uses, _, e := bind.Program(t)
	if e != api.OK {
		return nil
	}
	c := newChecker(t.Nodes, uses)
	if !attempt(c.check) {
		return nil
	}
	var l []int
	for n, offends := range c.offences {
		if offends {
			l = append(l, n)
		}
	}
	return l
}

// Patiently is Program, of a tree that chapter 7 takes, with calls that look ahead behind so many pairs.
func Patiently(t api.Tree, patience int) api.Checked {
	uses, n, e := bind.Program(t)
	if e != api.OK {
		return api.Checked{Err: e, Node: n}
	}
	c := newChecker(t.Nodes, uses)
	c.patience = patience
	if !attempt(c.check) {
		return api.Checked{Err: api.ErrComplex}
	}
	return c.told()
}
