package machine

import "shuck/api"

const noClass = "TypeError: no class"

// class is a Class as it stands.
type class struct {
	Variable
	base    *Variable // nil: it has none
	fields  []Task
	methods []method
	ctor    *function // nil: it has none
}

type method struct {
	key string
	*function
}

// shape is a class that was made.
type shape struct {
	*class
	scope     *scope
	base      *shape // nil: it has none
	prototype api.Value
}

func (c *class) Do(m *Machine) {
	s := &shape{class: c, scope: m.scope}
	behind := -1
	if c.base != nil {
		v, ok := m.Read(c.base)
		if !ok {
			return
		}
		if m.kind(v) != api.CClass {
			m.throw(noClass)
			return
		}
		s.base = m.classes[v.Num]
		behind = s.base.prototype.Num
	}
	if v, ok := m.lay(api.CClass, -1); ok && m.equip(s, behind) {
		m.classes[v.Num] = s
		m.Begin(&c.Variable, v)
	}
}

// equip makes the prototype of a class and its Methods, and tells whether there was room.
func (m *Machine) equip(s *shape, behind int) bool {
	var ok bool
	if s.prototype, ok = m.lay(api.CObject, behind); !ok {
		return false
	}
	for _, x := range s.methods {
		f, ok := m.makeFunction(x.function, present{scope: s.scope, home: s})
		if !ok || !m.went(m.heap.Set(s.prototype, x.key, f)) {
			return false
		}
	}
	return true
}

// fielding is the Fields of a class that are to be set on the present object.
type fielding shape

func (f *fielding) Do(m *Machine) {
	if len(f.fields) == 0 {
		return
	}
	m.Next(InOrder(f.fields), &rescope{m.scope})
	m.scope = f.scope
}

// field is a Field: its value is done, and then set.
type field struct {
	key   string
	value *Step
}

type fielded field

func (f *field) Do(m *Machine) { m.Next(f.value, (*fielded)(f)) }

func (f *fielded) Do(m *Machine) { m.SetOwn(f.key, m.Pop()) }

// SetOwn sets a member of this, and tells whether there was room for it.
func (m *Machine) SetOwn(key string, to api.Value) bool {
	return m.went(m.heap.Set(m.this, key, to))
}
