package check

import (
	"shuck/api"
	"shuck/bind"
)

// Offences is all nodes that offend, not the first one alone; none, if something is too complex.
func Offences(t api.Tree) []int {
	uses, _, e := bind.Program(t)
	if e != api.OK {
		return nil
	}
	c := newChecker(t.Nodes, uses)
	if !attempt(c.check) {
		return nil
	}
	var l []int
	for n, offends := range c.offences {
		if offends {
			l = append(l, n)
		}
	}
	return l
}
