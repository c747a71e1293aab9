package erase

import "shuck/api"

// namespace is the Var of what a function answers that does a Namespace's statements.
func (e *eraser) namespace(n int) []tree {
	at := place(e.nodes[n].At)
	list := at.tree(api.List, "")
	answer := at.tree(api.Return, "", at.tree(api.Object, "", e.exported(n)...))
	block := at.tree(api.Block, "", append(e.kids(n), answer)...)
	arrow := at.tree(api.Arrow, "", list, list, block)
	return []tree{at.constant(e.nodes[n].Text, at.tree(api.Call, "", arrow, list, list))}
}

// exported is a Prop of each name that a Namespace exports.
func (e *eraser) exported(n int) []tree {
	at := place(e.nodes[n].At)
	var props []tree
	for kid := range e.staying(n) {
		if e.parents[kid] == n {
			continue
		}
		name := e.nodes[kid].Text
		props = append(props, at.tree(api.Prop, name, at.tree(api.Name, name)))
	}
	return props
}
