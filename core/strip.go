package core

import (
	"strings"

	"shuck/api"
)

// stripper lays the nodes that are left of a checked tree one behind the other. (In one row: a tree made anew for each node would be copied as often as it is deep.)
type stripper struct {
	from []api.Node
	left []api.Node
}

// strip lays out what is left of a node, without those kids that are out, and tells where it stands.
func (s *stripper) strip(n int, out rule) int {
	n = s.within(n)
	at := len(s.left)
	s.left = append(s.left, alone(s.from[n]))
	var kids []int
	for _, kid := range s.from[n].Kids {
		if !out(s.from, kid) {
			kids = append(kids, s.strip(kid, ruleOf(s.from[kid].Kind)))
		}
	}
	s.left[at].Kids = kids
	return at
}

// within is the node that an As, a Bang, one in the other or not, is about; any other node is itself.
func (s *stripper) within(n int) int {
	for s.from[n].Kind == api.As || s.from[n].Kind == api.Bang {
		n = s.from[n].Kids[0]
	}
	return n
}

// alone is what is left of a node, its kids aside.
func alone(n api.Node) api.Node {
	left := api.Node{Kind: n.Kind, Text: strings.Clone(n.Text), Num: n.Num, At: n.At}
	switch {
	case isType(n.Kind):
		return api.Node{Kind: api.None, At: n.At}
	case n.Kind == api.Field:
		left.Num = 0
	case n.Kind == api.Param && n.Num&(api.Public|api.Readonly) != 0:
		left.Num = api.Public
	case n.Kind == api.Param:
		left.Num = 0
	}
	return left
}

// rule says of a kid whether it is left out.
type rule func(nodes []api.Node, kid int) bool

// ruleOf is the rule for the kids of a kind. (An As and a Bang have that of any expression, so it holds for what they are about.)
func ruleOf(kind int) rule {
	switch kind {
	case api.Program, api.Block, api.Namespace:
		return isForTypes
	case api.List:
		return isListedOut
	}
	if isType(kind) {
		return always
	}
	return never
}

// isForTypes tells whether a statement, or what is exported by it, makes nothing at run time.
func isForTypes(nodes []api.Node, n int) bool {
	if nodes[n].Kind == api.Export {
		n = nodes[n].Kids[0]
	}
	return nodes[n].Kind == api.Interface || nodes[n].Kind == api.Alias
}

// isListedOut tells whether a List goes without it: a type, a TypeParam, a Field without a value. (Lists of what is plain have none of these.)
func isListedOut(nodes []api.Node, n int) bool {
	kind := nodes[n].Kind
	return isType(kind) || kind == api.TypeParam || kind == api.Field && nodes[nodes[n].Kids[1]].Kind == api.None
}

// always leaves out every kid: those of a type, in whose place None stands.
func always([]api.Node, int) bool { return true }

// never leaves out no kid.
func never([]api.Node, int) bool { return false }
