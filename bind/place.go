package bind

import "shuck/api"

// needFunction looks whether a Return has a function to leave, and, with a value, one that answers something.
func (b *binder) needFunction(n int) {
	hasValue := !b.isNone(b.nodes[n].Kids[0])
	switch b.scope.body {
	case api.Func, api.Method, api.Arrow:
	case api.Ctor:
		if hasValue {
			b.offend(n)
		}
	default:
		b.offend(n)
	}
}

// needLoop looks whether a Break or a Continue has a loop.
func (b *binder) needLoop(n int) {
	if !b.scope.inLoop {
		b.offend(n)
	}
}

// needThis looks whether there is a this where a node stands.
func (b *binder) needThis(n int) {
	if b.scope.owner == nowhere {
		b.offend(n)
	}
}

// needBase looks whether the class of the this has a Base; where there is none, needThis tells it.
func (b *binder) needBase(n int) {
	if b.scope.owner != nowhere && !b.isBased(b.scope.owner) {
		b.offend(n)
	}
}

// needSuper looks whether a Ctor begins with a Super, if its class has a Base.
func (b *binder) needSuper(n int) {
	if !b.isBased(n) {
		return
	}
	block := b.nodes[b.nodes[n].Kids[1]]
	if len(block.Kids) == 0 || !b.isSuper(block.Kids[0]) {
		b.offend(n)
	}
}

// isSuper tells whether a statement is a Super alone.
func (b *binder) isSuper(n int) bool {
	return b.nodes[n].Kind == api.Eval && b.nodes[b.nodes[n].Kids[0]].Kind == api.Super
}

// needFirst looks whether a Super is what such a Ctor begins with.
func (b *binder) needFirst(n int) {
	eval := b.parents[n]
	block := b.parents[eval]
	ctor := b.parents[block]
	isFirst := b.nodes[eval].Kind == api.Eval && b.nodes[block].Kids[0] == eval
	if !isFirst || b.nodes[ctor].Kind != api.Ctor || !b.isBased(ctor) {
		b.offend(n)
	}
}

// isBased tells whether the class that a Method, a Ctor or a Field is a member of has a Base.
func (b *binder) isBased(member int) bool {
	class := b.parents[b.parents[member]]
	return !b.isNone(b.nodes[class].Kids[1])
}

func (b *binder) isNone(n int) bool { return b.nodes[n].Kind == api.None }
