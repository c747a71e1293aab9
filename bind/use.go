package bind

import "shuck/api"

// use is a use of a name, and what is needed until it is known what that stands for.
type use struct {
	api.Use
	function int // the innermost one that it stands in
	ahead    int // the use of the same name that was waiting when this one came
}

// unknown is the declaration of a use that waits for one; noUse is none of the uses.
const (
	unknown = -2
	noUse   = -1
)

// use has a use wait until a scope ends that has its name: a declaration may stand behind it.
func (b *binder) use(n int) {
	name := b.nodes[n].Text
	ahead, ok := b.waiting[name]
	if !ok {
		ahead = noUse
	}
	b.waiting[name] = len(b.uses)
	b.uses = append(b.uses, use{api.Use{At: n, Decl: unknown}, b.scope.function, ahead})
}

// settleAll settles what waits for the names of a scope that ends. So each use is asked about once, however many scopes are about it.
func (b *binder) settleAll(s *scope) {
	for name, declaration := range s.names {
		last, ok := b.waiting[name]
		if !ok {
			continue
		}
		for last != noUse && b.uses[last].At >= s.begin {
			b.settle(&b.uses[last], declaration, s)
			last = b.uses[last].ahead
		}
		b.waiting[name] = last
	}
}

// settle says what a use stands for: a declaration in that scope.
func (b *binder) settle(u *use, declaration int, s *scope) {
	u.Decl = declaration
	if b.hasTime(declaration) {
		u.Late = u.function != s.function
		if !u.Late && u.At < b.ends[declaration] {
			b.offend(u.At)
		}
	}
	if b.isAssigned(u.At) && !b.isOpen(declaration) {
		b.offend(b.parents[u.At])
	}
}

// hasTime tells whether a declaration has its value from some time on, not at once.
func (b *binder) hasTime(declaration int) bool {
	if declaration == outside {
		return false
	}
	switch b.nodes[declaration].Kind {
	case api.Var, api.Class, api.Enum, api.Namespace:
		return true
	}
	return false
}

// isAssigned tells whether a node is what an Assign assigns to.
func (b *binder) isAssigned(n int) bool {
	parent := b.nodes[b.parents[n]]
	return parent.Kind == api.Assign && parent.Kids[0] == n
}

// isOpen tells whether a declaration may be assigned to.
func (b *binder) isOpen(declaration int) bool {
	if declaration == outside {
		return false
	}
	switch d := b.nodes[declaration]; d.Kind {
	case api.Var, api.ForOf:
		return d.Num == api.Let
	case api.Param, api.Catch:
		return true
	}
	return false
}

// refuseUnknown has the uses offend that still wait.
func (b *binder) refuseUnknown() {
	for _, u := range b.uses {
		if u.Decl == unknown {
			b.offend(u.At)
		}
	}
}

func (b *binder) told() []api.Use {
	l := make([]api.Use, len(b.uses))
	for i, u := range b.uses {
		l[i] = u.Use
	}
	return l
}
