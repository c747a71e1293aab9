package erase

import (
	"iter"
	"slices"

	"shuck/api"
)

// erase is what is left of a node; what stands beneath it has been erased. (Of what the nodes about it leave out it does not matter.)
func (e *eraser) erase(n int) []tree {
	switch e.nodes[n].Kind {
	case api.As, api.Bang:
		return e.within(n)
	case api.Member:
		return e.member(n)
	case api.Enum:
		return e.enum(n)
	case api.Namespace:
		return e.namespace(n)
	case api.Ctor:
		return e.ctor(n)
	case api.Param, api.Field:
		return e.unmarked(n)
	case api.TypeName, api.TypeNum, api.TypeStr, api.TypeArray, api.TypeObject, api.TypeFunc, api.TypeUnion:
		return e.none(n)
	}
	return e.same(n)
}

// within is what is left of what an As or a Bang is about.
func (e *eraser) within(n int) []tree { return e.left[e.nodes[n].Kids[0]] }

// same is a node itself, over what is left of its kids.
func (e *eraser) same(n int) []tree { return []tree{{e.nodes[n], e.kids(n)}} }

// kids is what is left of a node's kids.
func (e *eraser) kids(n int) []tree {
	var l []tree
	for kid := range e.staying(n) {
		l = append(l, e.left[kid]...)
	}
	return l
}

// staying goes through a node's kids, a Program's, a Block's or a Namespace's statements among them, with what an Export exports in its place; it passes what is left out.
func (e *eraser) staying(n int) iter.Seq[int] {
	return func(yield func(int) bool) {
		for _, kid := range e.nodes[n].Kids {
			if e.nodes[kid].Kind == api.Export {
				kid = e.nodes[kid].Kids[0]
			}
			if e.isOut(kid) {
				continue
			}
			if !yield(kid) {
				return
			}
		}
	}
}

// isOut tells whether a node is left out with nothing in its place.
func (e *eraser) isOut(n int) bool {
	node := e.nodes[n]
	switch node.Kind {
	case api.Interface, api.Alias, api.TypeParam:
		return true
	case api.Enum:
		return isConstEnum(node)
	case api.Field:
		return e.nodes[node.Kids[1]].Kind == api.None
	}
	// A type that is in no List has a place of its own, which stays.
	return node.Kind >= api.TypeName && e.nodes[e.parents[n]].Kind == api.List
}

// none is what stands in the place of a type.
func (e *eraser) none(n int) []tree { return []tree{place(e.nodes[n].At).tree(api.None, "")} }

// unmarked is a node without its marks.
func (e *eraser) unmarked(n int) []tree {
	l := e.same(n)
	l[0].node.Num = 0
	return l
}

// ctor is a Ctor whose Block makes members of the Params that are to be some.
func (e *eraser) ctor(n int) []tree {
	ahead := 0
	if e.isBased(n) {
		ahead = 1 // the Super
	}
	l := e.same(n)
	block := &l[0].kids[1]
	block.kids = slices.Insert(block.kids, ahead, e.assigned(e.nodes[n].Kids[0])...)
	return l
}

// isBased tells whether the class of a Ctor has a Base.
func (e *eraser) isBased(ctor int) bool {
	class := e.parents[e.parents[ctor]]
	return e.nodes[e.nodes[class].Kids[1]].Kind == api.Base
}

// assigned is the statement this.x = x; of each Param in a List that is to be a member.
func (e *eraser) assigned(params int) []tree {
	var l []tree
	for _, n := range e.nodes[params].Kids {
		param := e.nodes[n]
		if param.Num&(api.Public|api.Readonly) == 0 {
			continue
		}
		at := place(param.At)
		member := at.tree(api.Member, param.Text, at.tree(api.This, ""))
		l = append(l, at.tree(api.Eval, "", at.tree(api.Assign, "=", member, at.tree(api.Name, param.Text))))
	}
	return l
}
