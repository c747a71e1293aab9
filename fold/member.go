package fold

import (
	"strings"

	"shuck/api"
)

// reader is the nodes of a checked tree, and those members of an enum that have been read.
type reader struct {
	nodes   []api.Node
	members []api.Constant
	names   map[string]struct{} // of these members: to look through all of them at each one would take too long where there are many
}

func newReader(nodes []api.Node, count int) *reader {
	return &reader{nodes, make([]api.Constant, 0, count), make(map[string]struct{}, count)}
}

// read reads an EnumMember, behind all those ahead of it.
func (r *reader) read(n int) {
	name := r.nodes[n].Text
	if _, twice := r.names[name]; twice {
		panic(refusal{})
	}
	r.names[name] = struct{}{}
	c := api.Constant{Name: strings.Clone(name), Node: n}
	kid := r.nodes[n].Kids[0]
	switch r.nodes[kid].Kind {
	case api.Str:
		c.Text, c.IsText = strings.Clone(r.nodes[kid].Text), true
	case api.None:
		c.Num = r.next()
	default:
		c.Num = value(r.nodes, kid)
	}
	r.members = append(r.members, c)
}

// next is the number of a member that has no expression.
func (r *reader) next() int {
	if len(r.members) == 0 {
		return 0
	}
	last := r.members[len(r.members)-1]
	if last.IsText {
		panic(refusal{})
	}
	return exact(last.Num + 1)
}
