package run

import (
	"shuck/api"
	"shuck/value"
)

// owner is an expression of a member, whose kid's value is this, where it is called.
type owner interface{ owned() *step }

type member struct {
	of  *step
	key string
}

// got tells a Member's value in the place of its kid's.
type got member

// ownMember is a Member that gives its kid's value, and then its own.
type ownMember member

// gotToo tells a Member's value behind its kid's.
type gotToo member

func (x *member) owned() *step { return &step{(*ownMember)(x)} }

func (x *member) do(m *machine) { m.next(x.of, (*got)(x)) }

func (x *got) do(m *machine) { m.settle(m.heap.Get(m.pop(), x.key)) }

func (x *ownMember) do(m *machine) { m.next(x.of, (*gotToo)(x)) }

func (x *gotToo) do(m *machine) { m.settle(m.heap.Get(m.top(), x.key)) }

// top is the last value that was given; it stays.
func (m *machine) top() api.Value { return m.values[len(m.values)-1] }

type index struct{ of, index *step }

type found index

// ownIndex is an Index that gives its first kid's value, and then its own.
type ownIndex index

type foundToo index

func (x *index) owned() *step { return &step{(*ownIndex)(x)} }

func (x *index) do(m *machine) { m.next(x.of, x.index, (*found)(x)) }

func (x *found) do(m *machine) {
	index := m.pop()
	m.settle(m.heap.At(m.pop(), index))
}

func (x *ownIndex) do(m *machine) { m.next(x.of, x.index, (*foundToo)(x)) }

func (x *foundToo) do(m *machine) {
	index := m.pop()
	m.settle(m.heap.At(m.top(), index))
}

type superMember struct{ key string }

// ownSuper is a SuperMember that gives the present this, and then its own value.
type ownSuper superMember

func (x *superMember) owned() *step { return &step{(*ownSuper)(x)} }

func (x *superMember) do(m *machine) { m.settle(m.heap.Get(m.home.base.prototype, x.key)) }

func (x *ownSuper) do(m *machine) {
	m.give(m.this)
	(*superMember)(x).do(m)
}

// target is what is assigned to. The values of its kids lie on the stack while its value is read, and are taken off when it is written.
type target interface {
	kids() []task
	read(m *machine, kids []api.Value) (api.Value, bool)
	write(m *machine, kids []api.Value, to api.Value) bool
}

func (n *name) kids() []task { return nil }

func (n *name) read(m *machine, _ []api.Value) (api.Value, bool) { return m.read(&n.variable) }

func (n *name) write(m *machine, _ []api.Value, to api.Value) bool {
	return m.assign(&n.variable, to)
}

func (x *member) kids() []task { return []task{x.of} }

func (x *member) read(m *machine, kids []api.Value) (api.Value, bool) {
	v, thrown, fault := m.heap.Get(kids[0], x.key)
	return v, m.went(thrown, fault)
}

func (x *member) write(m *machine, kids []api.Value, to api.Value) bool {
	return m.went(m.heap.Set(kids[0], x.key, to))
}

func (x *index) kids() []task { return []task{x.of, x.index} }

func (x *index) read(m *machine, kids []api.Value) (api.Value, bool) {
	v, thrown, fault := m.heap.At(kids[0], kids[1])
	return v, m.went(thrown, fault)
}

func (x *index) write(m *machine, kids []api.Value, to api.Value) bool {
	return m.went(m.heap.Put(kids[0], kids[1], to))
}

// assign is an Assign; its op is the sign without `=`.
type assign struct {
	op   string
	to   target
	kids []task // of the target
	with *step
}

// readAhead reads what an Assign with another sign than `=` changes.
type readAhead assign

type written assign

func (a *assign) do(m *machine) {
	if a.op == "" {
		m.next(inOrder(a.kids), a.with, (*written)(a))
		return
	}
	m.next(inOrder(a.kids), (*readAhead)(a), a.with, (*written)(a))
}

func (a *readAhead) do(m *machine) {
	if v, ok := a.to.read(m, m.values[len(m.values)-len(a.kids):]); ok {
		m.give(v)
	}
}

func (a *written) do(m *machine) {
	v := m.pop()
	if a.op != "" {
		var thrown string
		var fault int
		if v, thrown, fault = value.Binary(a.op, m.pop(), v); !m.went(thrown, fault) {
			return
		}
	}
	if a.to.write(m, m.take(len(a.kids)), v) {
		m.give(v)
	}
}
