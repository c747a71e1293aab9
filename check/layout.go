package check

import (
	"iter"

	"shuck/api"
)

// nowhere is the number of no node, and of no type.
const nowhere = -1

// layout is the nodes of a program, and what is asked of their places again and again.
type layout struct {
	nodes   []api.Node
	parents []int
	ends    []int  // of each node, the number behind all that stands beneath it
	breaks  []bool // of each loop, whether a Break of it stands beneath it
}

func laidOut(nodes []api.Node) layout {
	l := layout{nodes, make([]int, len(nodes)), make([]int, len(nodes)), make([]bool, len(nodes))}
	// From behind: what stands beneath a node is known ahead of it.
	for n := len(nodes) - 1; n >= 0; n-- {
		l.ends[n] = n + 1
		for _, kid := range nodes[n].Kids {
			l.parents[kid] = n
			l.ends[n] = l.ends[kid]
		}
	}
	loops := make([]int, len(nodes)) // of each node, the innermost loop that it stands in
	for n, node := range nodes {
		if n > 0 {
			loops[n] = loops[l.parents[n]]
		}
		switch node.Kind {
		case api.While, api.For, api.ForOf:
			loops[n] = n
		case api.Break:
			l.breaks[loops[n]] = true
		}
	}
	return l
}

// kind is a node's kind.
func (l *layout) kind(n int) int { return l.nodes[n].Kind }

// kid is a node's kid of a number.
func (l *layout) kid(n, i int) int { return l.nodes[n].Kids[i] }

// isNone tells whether a place is empty.
func (l *layout) isNone(n int) bool { return l.nodes[n].Kind == api.None }

// isAssigned tells whether a node is what an Assign assigns to.
func (l *layout) isAssigned(n int) bool {
	parent := l.nodes[l.parents[n]]
	return parent.Kind == api.Assign && parent.Kids[0] == n
}

// statements goes through what stands in a Program, a Block or a Namespace from a place on; an Export is what it exports.
func (l *layout) statements(n, from int) iter.Seq2[int, int] {
	return func(yield func(int, int) bool) {
		for i, s := range l.nodes[n].Kids[from:] {
			if l.kind(s) == api.Export {
				s = l.kid(s, 0)
			}
			if !yield(from+i, s) {
				return
			}
		}
	}
}

// parameters is the TypeParams of a declaration; none of what has none.
func (l *layout) parameters(n int) []int {
	switch l.kind(n) {
	case api.Func, api.Method, api.Arrow, api.Class, api.Interface, api.Alias:
		return l.nodes[l.kid(n, 0)].Kids
	}
	return nil
}

// classOf is the Class of a Field, a Method or a Ctor.
func (l *layout) classOf(member int) int { return l.parents[l.parents[member]] }

// isType tells whether a kind is that of a type that is written.
func isType(kind int) bool { return kind >= api.TypeName && kind != api.TypeProp }
