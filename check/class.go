package check

import (
	"iter"

	"shuck/api"
)

// member is what a Class or an Interface has by a name.
type member struct {
	api.Piece
	decl int // the Field, the Method, the Param or the TypeProp
}

// shape is all that a Class or an Interface has, its own members first.
type shape struct {
	members []member
	names   map[string]int
}

// add tells whether a member has a name that is not there yet.
func (s *shape) add(m member) bool {
	if _, there := s.names[m.Name]; there {
		return false
	}
	s.names[m.Name] = len(s.members)
	s.members = append(s.members, m)
	return true
}

// named is the member of a name.
func (s *shape) named(name string) (member, bool) {
	at, ok := s.names[name]
	if !ok {
		return member{}, false
	}
	return s.members[at], true
}

// parent is what is extended: a Class or an Interface, with types in the place of its parameters; a decl of nowhere gives nothing.
type parent struct {
	decl  int
	types []int
	whole int // the type of both
}

// override is a member that stands in the place of another.
type override struct {
	member
	other api.Piece
}

// defineAll has the arena know what each Class and each Interface has.
func (c *checker) defineAll() {
	for n, node := range c.nodes {
		if node.Kind == api.Class || node.Kind == api.Interface {
			c.shape(n)
		}
	}
}

// shapeOf is all that a Class or an Interface has.
func (c *checker) shapeOf(decl int) *shape {
	s := &shape{names: map[string]int{}}
	for m := range c.ownMembers(decl) {
		if !s.add(m) {
			c.offend(m.decl)
		}
	}
	own := len(s.members)
	for p := range c.extended(decl) {
		c.inherit(s, own, p)
	}
	pieces := make([]api.Piece, len(s.members))
	for i, m := range s.members {
		pieces[i] = m.Piece
	}
	made(0, c.arena.Define(decl, c.parameters(decl), pieces))
	return s
}

// inherit adds what a parent has and a shape has not. Own members that stand in the place of its ones are held against them later, when all is defined.
func (c *checker) inherit(s *shape, own int, p parent) {
	for _, m := range c.shape(p.decl).members {
		at, there := s.names[m.Name]
		if there && at >= own {
			continue
		}
		m.Type = c.subst(m.Type, c.parameters(p.decl), p.types)
		if there {
			c.overrides = append(c.overrides, override{s.members[at], m.Piece})
		} else {
			s.add(m)
		}
	}
}

// ownMembers goes through the members that a Class or an Interface declares.
func (c *checker) ownMembers(decl int) iter.Seq[member] {
	if c.kind(decl) == api.Class {
		return c.classMembers(decl)
	}
	return func(yield func(member) bool) {
		for _, prop := range c.ownProps(c.kid(decl, 2)) {
			node := c.nodes[prop]
			if !yield(member{api.Piece{Name: node.Text, Type: c.written(node.Kids[0]), Mark: node.Num == api.Optional}, prop}) {
				return
			}
		}
	}
}

// classMembers goes through the Fields, the Methods and the Params that are members, in the order of their numbers.
func (c *checker) classMembers(class int) iter.Seq[member] {
	return func(yield func(member) bool) {
		hand := func(n, id int) bool {
			return yield(member{api.Piece{Name: c.nodes[n].Text, Type: id}, n})
		}
		for _, n := range c.nodes[c.kid(class, 3)].Kids {
			on := true
			switch c.kind(n) {
			case api.Field:
				on = hand(n, c.orAny(c.kid(n, 0)))
			case api.Method:
				on = hand(n, c.function(n))
			case api.Ctor:
				for _, p := range c.nodes[c.kid(n, 0)].Kids {
					if c.nodes[p].Num&(api.Public|api.Readonly) != 0 {
						on = on && hand(p, c.param(p))
					}
				}
			}
			if !on {
				return
			}
		}
	}
}

// extended goes through what a Class or an Interface extends, but what gives nothing.
func (c *checker) extended(decl int) iter.Seq[parent] {
	return func(yield func(parent) bool) {
		if c.kind(decl) == api.Class {
			if p := c.base(decl); p.decl != nowhere {
				yield(p)
			}
			return
		}
		for _, n := range c.nodes[c.kid(decl, 1)].Kids {
			if p := c.extension(n); p.decl != nowhere && !yield(p) {
				return
			}
		}
	}
}

// baseOf is what a Class extends.
func (c *checker) baseOf(class int) parent {
	n := c.kid(class, 1)
	if c.isNone(n) {
		return parent{decl: nowhere}
	}
	decl, types := c.uses[n], c.eachWritten(c.kid(n, 0))
	if !c.isOf(decl, api.Class) || len(types) != len(c.parameters(decl)) {
		c.offend(n)
		return parent{decl: nowhere}
	}
	return parent{decl, types, c.bear(api.KRef, decl, types...)}
}

// extension is what a TypeName has an Interface extend.
func (c *checker) extension(n int) parent {
	whole := c.written(n)
	decl := c.standsFor(n)
	if c.offences[n] || !c.isOf(decl, api.Class, api.Interface) || c.isRound(n) {
		c.offend(n)
		return parent{decl: nowhere}
	}
	return parent{decl, c.eachWritten(c.kid(n, 0)), whole}
}

// isOf tells whether there is a declaration, and whether it is of one of these kinds.
func (c *checker) isOf(decl int, kinds ...int) bool {
	if decl == nowhere {
		return false
	}
	for _, kind := range kinds {
		if c.kind(decl) == kind {
			return true
		}
	}
	return false
}

// holdAll holds members against those in whose place they stand, and Classes against what they implement.
func (c *checker) holdAll() {
	for _, o := range c.overrides {
		if !c.takes(o.other.Type, o.Type) || o.Mark && !o.other.Mark {
			c.offend(o.decl)
		}
	}
	for n, node := range c.nodes {
		if node.Kind == api.Class {
			c.holdImplements(n)
		}
	}
}

func (c *checker) holdImplements(class int) {
	for _, n := range c.nodes[c.kid(class, 2)].Kids {
		id := c.written(n)
		if !c.isOf(c.standsFor(n), api.Class, api.Interface) {
			if _, some := c.piecesOf(id); !some {
				c.offend(n)
			}
		}
		if !c.takes(id, c.own(class)) {
			c.offend(n)
		}
	}
}

// ctorOf is how a Class makes its objects: by its Ctor, or by the nearest one of a Base.
func (c *checker) ctorOf(class int) signature {
	s := signature{vars: c.parameters(class), answer: c.own(class)}
	for _, n := range c.nodes[c.kid(class, 3)].Kids {
		if c.kind(n) == api.Ctor {
			s.params, s.marks = c.params(c.kid(n, 0))
			return s
		}
	}
	base := c.base(class)
	if base.decl == nowhere {
		return s
	}
	by := c.ctor(base.decl)
	s.params, s.marks = c.substAll(by.params, by.vars, base.types), by.marks
	return s
}

func (c *checker) substAll(ids, vars, types []int) []int {
	l := make([]int, len(ids))
	for i, id := range ids {
		l[i] = c.subst(id, vars, types)
	}
	return l
}
