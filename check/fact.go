package check

import (
	"maps"
	"slices"

	"shuck/api"
)

// facts is what is known of the types of declarations at a place.
type facts map[int]int

// state is the facts at a place, and whether it is reached.
type state struct {
	facts     facts
	isReached bool
}

// copied is a state whose facts may be changed without changing others.
func (s state) copied() state { return state{maps.Clone(s.facts), s.isReached} }

// stop is where a way ends: what stands behind is not reached.
func (c *checker) stop() { c.state = state{facts{}, false} }

// joined is the state where two ways come together.
func (c *checker) joined(x, y state) state {
	switch {
	case !x.isReached:
		return y
	case !y.isReached:
		return x
	}
	both := facts{}
	for decl, id := range x.facts {
		other, ok := y.facts[decl]
		switch {
		case !ok:
		case id == other:
			both[decl] = id
		default:
			both[decl] = c.union(id, other)
		}
	}
	return state{both, true}
}

// unassigned is the present state without the facts of what is assigned to beneath a node.
func (c *checker) unassigned(n int) state {
	return c.without(func(decl int) bool {
		l := c.assigned[decl]
		at, _ := slices.BinarySearch(l, n)
		return at < len(l) && l[at] < c.ends[n]
	})
}

// lasting is the state in which a function begins: whenever it is called, these facts hold.
func (c *checker) lasting() state {
	return c.without(func(decl int) bool { return len(c.assigned[decl]) > 0 })
}

// without is the present state, reached, without some of the facts.
func (c *checker) without(goes func(decl int) bool) state {
	left := facts{}
	for decl, id := range c.facts {
		if !goes(decl) {
			left[decl] = id
		}
	}
	return state{left, true}
}

// where is a state in which a condition has said yes, or no.
func (c *checker) where(condition int, yes bool, s state) state {
	s = s.copied()
	c.say(condition, yes, s.facts)
	return s
}

// say adds what a condition says.
func (c *checker) say(n int, yes bool, f facts) {
	node := c.nodes[n]
	switch {
	case node.Kind == api.Unary && node.Text == "!":
		c.say(node.Kids[0], !yes, f)
	case node.Kind == api.Binary && (node.Text == "&&" && yes || node.Text == "||" && !yes):
		c.say(node.Kids[0], yes, f)
		c.say(node.Kids[1], yes, f)
	default:
		c.sayOne(n, yes, f)
	}
}

// sayOne adds what a condition says that is one test.
func (c *checker) sayOne(n int, yes bool, f facts) {
	name, test, ok := c.testOf(n)
	if !ok {
		return
	}
	decl := c.uses[name]
	id, known := f[decl]
	if !known {
		id = c.declared(name, decl)
	}
	f[decl] = c.keep(id, test, yes != (c.nodes[n].Text == "!=="))
}

// testOf is the Name that a condition tests, and how.
func (c *checker) testOf(n int) (int, api.Test, bool) {
	node := c.nodes[n]
	switch {
	case c.isKept(n):
		return n, api.Test{Kind: api.TestTruth}, true
	case node.Kind != api.Binary:
		return nowhere, api.Test{}, false
	case node.Text == "in":
		left, right := node.Kids[0], node.Kids[1]
		return right, api.Test{Kind: api.TestHas, Text: c.nodes[left].Text}, c.kind(left) == api.Str && c.isKept(right)
	case node.Text == "===" || node.Text == "!==":
		if name, test, ok := c.testBy(node.Kids[0], node.Kids[1]); ok {
			return name, test, true
		}
		return c.testBy(node.Kids[1], node.Kids[0])
	}
	return nowhere, api.Test{}, false
}

// testBy is the Name of which a node says something, and how it is tested, if that is held against another node.
func (c *checker) testBy(n, other int) (int, api.Test, bool) {
	node := c.nodes[n]
	switch {
	case c.isKept(n):
		return n, api.Test{Kind: api.TestIs, Type: c.types[other] - 1}, c.isValue(other)
	case node.Kind == api.Unary && node.Text == "typeof":
		return node.Kids[0], api.Test{Kind: api.TestKind, Text: c.nodes[other].Text}, c.isKept(node.Kids[0]) && c.kind(other) == api.Str
	case node.Kind == api.Member:
		return node.Kids[0], api.Test{Kind: api.TestField, Text: node.Text, Type: c.types[other] - 1}, c.isKept(node.Kids[0]) && c.isValue(other)
	}
	return nowhere, api.Test{}, false
}

// isKept tells whether a node is a Name of which facts are kept.
func (c *checker) isKept(n int) bool {
	return c.kind(n) == api.Name && c.isOf(c.uses[n], api.Var, api.Param, api.ForOf, api.Catch)
}

// isValue tells whether an expression is one of those that say which one value they have.
func (c *checker) isValue(n int) bool {
	node := c.nodes[n]
	switch node.Kind {
	case api.Num, api.Str, api.True, api.False, api.Null, api.Undefined:
		return true
	case api.Unary:
		return node.Text == "-" && c.kind(node.Kids[0]) == api.Num
	case api.Member:
		return c.at(c.types[n]-1).Kind == api.KCase && c.at(c.types[node.Kids[0]]-1).Kind == api.KCases
	}
	return false
}
