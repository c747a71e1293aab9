package erase

import (
	"shuck/api"
	"shuck/fold"
	"shuck/part"
)

// readEnums reads the members of the Enums, and tells the first member that is refused; the number of no node, if there is none.
func (e *eraser) readEnums() int {
	for n, node := range e.nodes {
		if node.Kind != api.Enum {
			continue
		}
		members, at, err := fold.Members(part.Tree(e.nodes, n), 0)
		if err != api.OK {
			// No other one is ahead of it: an Enum that stands in a member's expression makes that one refused.
			return n + at
		}
		e.enums[n] = members
	}
	return len(e.nodes)
}

// readUses notes the Members that are those of Const Enums, and tells the first use of such an Enum that offends; the number of no node, if there is none.
func (e *eraser) readUses(uses []api.Use) int {
	for _, u := range uses {
		if u.Decl < 0 || !isConstEnum(e.nodes[u.Decl]) {
			continue
		}
		member := e.parents[u.At]
		if !e.isCase(member, u.Decl) || e.isAssigned(member) || e.isMade(member) {
			return u.At
		}
		e.cases[member] = u.Decl
	}
	return len(e.nodes)
}

func isConstEnum(node api.Node) bool { return node.Kind == api.Enum && node.Num == api.Const }

// isCase tells whether a node is a Member that names an EnumMember of an Enum.
func (e *eraser) isCase(n, enum int) bool {
	if e.nodes[n].Kind != api.Member {
		return false
	}
	_, ok := e.placesOf(enum)[e.nodes[n].Text]
	return ok
}

// placesOf tells which of an Enum's members has a name. (They are asked for when Members may have refused the Enum.)
func (e *eraser) placesOf(enum int) map[string]int {
	places, ok := e.places[enum]
	if !ok {
		places = map[string]int{}
		for i, member := range e.nodes[enum].Kids {
			places[e.nodes[member].Text] = i
		}
		e.places[enum] = places
	}
	return places
}

// isAssigned tells whether a node is what an Assign assigns to.
func (e *eraser) isAssigned(n int) bool { return e.isFirst(n, api.Assign) }

// isMade tells whether a node is what a New makes, or stands beneath Members alone that are.
func (e *eraser) isMade(n int) bool {
	for e.nodes[e.parents[n]].Kind == api.Member {
		n = e.parents[n]
	}
	return e.isFirst(n, api.New)
}

// isFirst tells whether a node is the first kid of one of that kind.
func (e *eraser) isFirst(n, kind int) bool {
	parent := e.nodes[e.parents[n]]
	return parent.Kind == kind && parent.Kids[0] == n
}

// enum is the Var of an Enum's members.
func (e *eraser) enum(n int) []tree {
	at := place(e.nodes[n].At)
	var props []tree
	for _, c := range e.enums[n] {
		props = append(props, at.tree(api.Prop, c.Name, at.value(c)))
	}
	return []tree{at.constant(e.nodes[n].Text, at.tree(api.Object, "", props...))}
}

// member is the value of a Const Enum's member; any other Member is itself.
func (e *eraser) member(n int) []tree {
	enum, ok := e.cases[n]
	if !ok {
		return e.same(n)
	}
	c := e.enums[enum][e.placesOf(enum)[e.nodes[n].Text]]
	return []tree{place(e.nodes[n].At).value(c)}
}
