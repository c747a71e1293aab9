package run

import "shuck/api"

const noClass = "TypeError: no class"

// class is a Class as it stands.
type class struct {
	variable
	base    *variable // nil: it has none
	fields  []task
	methods []method
	ctor    *function // nil: it has none
}

type method struct {
	key string
	*function
}

// shape is a class that was made.
type shape struct {
	*class
	scope     *scope
	base      *shape // nil: it has none
	prototype api.Value
}

func (c *class) do(m *machine) {
	s := &shape{class: c, scope: m.scope}
	behind := -1
	if c.base != nil {
		v, ok := m.read(c.base)
		if !ok {
			return
		}
		if m.kind(v) != api.CClass {
			m.throw(noClass)
			return
		}
		s.base = m.classes[v.Num]
		behind = s.base.prototype.Num
	}
	if v, ok := m.lay(api.CClass, -1); ok && m.equip(s, behind) {
		m.classes[v.Num] = s
		m.begin(&c.variable, v)
	}
}

// equip makes the prototype of a class and its Methods, and tells whether there was room.
func (m *machine) equip(s *shape, behind int) bool {
	var ok bool
	if s.prototype, ok = m.lay(api.CObject, behind); !ok {
		return false
	}
	for _, x := range s.methods {
		f, ok := m.makeFunction(x.function, present{scope: s.scope, home: s})
		if !ok || !m.went(m.heap.Set(s.prototype, x.key, f)) {
			return false
		}
	}
	return true
}

// fielding is the Fields of a class that are to be set on the present object.
type fielding shape

func (f *fielding) do(m *machine) {
	if len(f.fields) == 0 {
		return
	}
	m.next(inOrder(f.fields), &rescope{m.scope})
	m.scope = f.scope
}

// field is a Field: its value is done, and then set.
type field struct {
	key   string
	value *step
}

type fielded field

func (f *field) do(m *machine) { m.next(f.value, (*fielded)(f)) }

func (f *fielded) do(m *machine) { m.went(m.heap.Set(m.this, f.key, m.pop())) }
