package bind

import "shuck/api"

// scope is a part of the program into which names are laid, within an outer one. (A While's and a Field's are there for their place alone.)
type scope struct {
	place
	outer *scope
	begin int            // the first node that stands in it
	end   int            // the number behind the last one
	names map[string]int // the declarations' numbers; nil, as long as there is none
}

// place is what the rules ask of where a node stands.
type place struct {
	function int  // the innermost function, a Field being that of its value; or nowhere
	body     int  // the kind of the innermost function or Namespace; Program, where there is neither
	owner    int  // the Method, the Ctor or the Field that has the this; or nowhere
	inLoop   bool // whether a loop within the body is about it
}

const nowhere = -1

// outside is the declaration of what the surroundings have.
const outside = -1

func surroundings(end int) *scope {
	return &scope{
		place: place{function: nowhere, body: api.Program, owner: nowhere},
		end:   end,
		names: map[string]int{"print": outside, "input": outside},
	}
}

// enter makes a node's scope the present one.
func (b *binder) enter(n int) {
	s := &scope{place: b.within(n), outer: b.scope, begin: n, end: b.ends[n]}
	if b.nodes[n].Kind == api.ForOf {
		s.begin = b.nodes[n].Kids[1]
	}
	b.scope = s
}

// within is the place of what stands in a node, which stands in the present scope.
func (b *binder) within(n int) place {
	p := b.scope.place
	switch kind := b.nodes[n].Kind; kind {
	case api.Func:
		return place{function: n, body: kind, owner: nowhere}
	case api.Method, api.Ctor, api.Field:
		return place{function: n, body: kind, owner: n}
	case api.Arrow:
		return place{function: n, body: kind, owner: p.owner}
	case api.Namespace:
		return place{function: p.function, body: kind, owner: nowhere}
	case api.While, api.For, api.ForOf:
		p.inLoop = true
	}
	return p
}

// leave leaves the scopes that end ahead of a node.
func (b *binder) leave(n int) {
	for b.scope != nil && b.scope.end <= n {
		b.settleAll(b.scope)
		b.scope = b.scope.outer
	}
}

// needNewName looks whether a statement of a body declares what the function or the Catch has in its own scope, the one about the body's.
func (b *binder) needNewName(n int) {
	if b.isBody(b.parents[n]) && b.scope.outer.has(b.nodes[n].Text) {
		b.offend(n)
	}
}

// declare lays a node's name into the present scope, where the first one counts.
func (b *binder) declare(n int) {
	s, name := b.scope, b.nodes[n].Text
	if s.has(name) {
		b.offend(n)
		return
	}
	if s.names == nil {
		s.names = map[string]int{}
	}
	s.names[name] = n
}

func (s *scope) has(name string) bool {
	_, ok := s.names[name]
	return ok
}

// isBody tells whether a node is the Block of a function or of a Catch.
func (b *binder) isBody(n int) bool {
	if b.nodes[n].Kind != api.Block {
		return false
	}
	switch b.nodes[b.parents[n]].Kind {
	case api.Func, api.Method, api.Ctor, api.Arrow, api.Catch:
		return true
	}
	return false
}
