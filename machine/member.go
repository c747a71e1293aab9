package machine

import (
	"shuck/api"
	"shuck/value"
)

// Owner is an expression of a member, whose kid's value is this, where it is called; or one that is looked through to such one.
type Owner interface {
	// Owned is a step that begins it as what is called: it gives two values, this and its own.
	Owned() *Step
	// Pushes tells whether it is a Member push.
	Pushes() bool
}

type member struct {
	of  *Step
	key string
}

// got tells a Member's value in the place of its kid's.
type got member

// ownMember is a Member that gives its kid's value, and then its own.
type ownMember member

// gotToo tells a Member's value behind its kid's.
type gotToo member

func (x *member) Owned() *Step { return &Step{(*ownMember)(x)} }

func (x *member) Pushes() bool { return x.key == "push" }

func (x *member) Do(m *Machine) { m.Next(x.of, (*got)(x)) }

func (x *got) Do(m *Machine) { m.settle(m.heap.Get(m.Pop(), x.key)) }

func (x *ownMember) Do(m *Machine) { m.Next(x.of, (*gotToo)(x)) }

func (x *gotToo) Do(m *Machine) { m.settle(m.heap.Get(m.top(), x.key)) }

// top is the last value that was given; it stays.
func (m *Machine) top() api.Value { return m.values[len(m.values)-1] }

type index struct{ of, index *Step }

type found index

// ownIndex is an Index that gives its first kid's value, and then its own.
type ownIndex index

type foundToo index

func (x *index) Owned() *Step { return &Step{(*ownIndex)(x)} }

func (*index) Pushes() bool { return false }

func (x *index) Do(m *Machine) { m.Next(x.of, x.index, (*found)(x)) }

func (x *found) Do(m *Machine) {
	index := m.Pop()
	m.settle(m.heap.At(m.Pop(), index))
}

func (x *ownIndex) Do(m *Machine) { m.Next(x.of, x.index, (*foundToo)(x)) }

func (x *foundToo) Do(m *Machine) {
	index := m.Pop()
	m.settle(m.heap.At(m.top(), index))
}

type superMember struct{ key string }

// ownSuper is a SuperMember that gives the present this, and then its own value.
type ownSuper superMember

func (x *superMember) Owned() *Step { return &Step{(*ownSuper)(x)} }

func (*superMember) Pushes() bool { return false }

func (x *superMember) Do(m *Machine) { m.settle(m.heap.Get(m.home.base.prototype, x.key)) }

func (x *ownSuper) Do(m *Machine) {
	m.Give(m.this)
	(*superMember)(x).Do(m)
}

// target is what is assigned to. The values of its kids lie on the stack while its value is read, and are taken off when it is written.
type target interface {
	kids() []Task
	read(m *Machine, kids []api.Value) (api.Value, bool)
	write(m *Machine, kids []api.Value, to api.Value) bool
}

func (n *name) kids() []Task { return nil }

func (n *name) read(m *Machine, _ []api.Value) (api.Value, bool) { return m.Read(&n.Variable) }

func (n *name) write(m *Machine, _ []api.Value, to api.Value) bool {
	return m.assign(&n.Variable, to)
}

func (x *member) kids() []Task { return []Task{x.of} }

func (x *member) read(m *Machine, kids []api.Value) (api.Value, bool) {
	v, thrown, fault := m.heap.Get(kids[0], x.key)
	return v, m.went(thrown, fault)
}

func (x *member) write(m *Machine, kids []api.Value, to api.Value) bool {
	return m.went(m.heap.Set(kids[0], x.key, to))
}

func (x *index) kids() []Task { return []Task{x.of, x.index} }

func (x *index) read(m *Machine, kids []api.Value) (api.Value, bool) {
	v, thrown, fault := m.heap.At(kids[0], kids[1])
	return v, m.went(thrown, fault)
}

func (x *index) write(m *Machine, kids []api.Value, to api.Value) bool {
	return m.went(m.heap.Put(kids[0], kids[1], to))
}

// assign is an Assign; its op is the sign without `=`.
type assign struct {
	op   string
	to   target
	kids []Task // of the target
	with *Step
}

// readAhead reads what an Assign with another sign than `=` changes.
type readAhead assign

type written assign

func (a *assign) Do(m *Machine) {
	if a.op == "" {
		m.Next(InOrder(a.kids), a.with, (*written)(a))
		return
	}
	m.Next(InOrder(a.kids), (*readAhead)(a), a.with, (*written)(a))
}

func (a *readAhead) Do(m *Machine) {
	if v, ok := a.to.read(m, m.values[len(m.values)-len(a.kids):]); ok {
		m.Give(v)
	}
}

func (a *written) Do(m *Machine) {
	v := m.Pop()
	if a.op != "" {
		var thrown string
		var fault int
		if v, thrown, fault = value.Binary(a.op, m.Pop(), v); !m.went(thrown, fault) {
			return
		}
	}
	if a.to.write(m, m.take(len(a.kids)), v) {
		m.Give(v)
	}
}
