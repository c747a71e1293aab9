package machine

import (
	"iter"
	"strings"

	"shuck/api"
	"shuck/value"
)

// Constant is an expression that has one value.
type Constant struct{ Value api.Value }

func (c *Constant) Do(m *Machine) { m.Give(c.Value) }

type thisOne struct{}

func (thisOne) Do(m *Machine) { m.Give(m.this) }

type name struct{ Variable }

func (n *name) Do(m *Machine) {
	if v, ok := m.Read(&n.Variable); ok {
		m.Give(v)
	}
}

type template struct {
	pieces []string // one more than holes
	holes  []Task
}

type joined template

func (t *template) Do(m *Machine) { m.Next(InOrder(t.holes), (*joined)(t)) }

func (t *joined) Do(m *Machine) {
	holes := m.take(len(t.holes))
	var s strings.Builder
	for i, piece := range t.pieces {
		s.WriteString(piece)
		if i < len(holes) {
			s.WriteString(m.heap.Show(holes[i]))
		}
		if s.Len() > api.MaxBytes {
			m.stop(api.EndHeap)
			return
		}
	}
	m.Give(text(s.String()))
}

type array struct{ values []Task }

type arrayed array

func (a *array) Do(m *Machine) { m.Next(InOrder(a.values), (*arrayed)(a)) }

func (a *arrayed) Do(m *Machine) {
	l, ok := m.lay(api.CArray, -1)
	if ok && m.pushAll(l, m.take(len(a.values))) {
		m.Give(l)
	}
}

// pushAll lays values at an array's end, one by one, and tells whether there was room for all.
func (m *Machine) pushAll(l api.Value, values []api.Value) bool {
	for _, v := range values {
		if _, fault := m.heap.Push(l.Num, v); !m.went("", fault) {
			return false
		}
	}
	return true
}

type object struct {
	keys   []string
	values []Task
}

type objected object

func (o *object) Do(m *Machine) { m.Next(InOrder(o.values), (*objected)(o)) }

func (o *objected) Do(m *Machine) {
	m.GiveObject(func(yield func(string, api.Value) bool) {
		for i, v := range m.take(len(o.values)) {
			if !yield(o.keys[i], v) {
				return
			}
		}
	})
}

// GiveObject gives a new object that has these members, if there is room for it and for them.
func (m *Machine) GiveObject(members iter.Seq2[string, api.Value]) {
	made, ok := m.lay(api.CObject, -1)
	if !ok {
		return
	}
	for key, v := range members {
		if !m.went(m.heap.Set(made, key, v)) {
			return
		}
	}
	m.Give(made)
}

type unary struct {
	op    string
	value *Step
}

type turned unary

func (u *unary) Do(m *Machine) { m.Next(u.value, (*turned)(u)) }

func (u *turned) Do(m *Machine) {
	v := m.Pop()
	if u.op == "typeof" {
		m.Give(text(m.heap.Typeof(v)))
		return
	}
	m.settle(value.Unary(u.op, v))
}

type binary struct {
	op          string
	left, right *Step
}

type combined binary

func (b *binary) Do(m *Machine) { m.Next(b.left, b.right, (*combined)(b)) }

func (b *combined) Do(m *Machine) {
	right := m.Pop()
	left := m.Pop()
	m.settle(value.Binary(b.op, left, right))
}

// has is a Binary `in`.
type has struct {
	key, of *Step
}

type looked has

func (h *has) Do(m *Machine) { m.Next(h.key, h.of, (*looked)(h)) }

func (*looked) Do(m *Machine) {
	of := m.Pop()
	key := m.Pop()
	if key.Kind != api.VString {
		m.throw("TypeError: in")
		return
	}
	is, thrown, fault := m.heap.Has(of, key.Text)
	m.settle(truth(is), thrown, fault)
}

func truth(is bool) api.Value {
	v := api.Value{Kind: api.VBool}
	if is {
		v.Num = 1
	}
	return v
}

// either is a Binary `&&` or `||`: the left value, if its truth is that which is enough, else the right one.
type either struct {
	enough      bool
	left, right *Step
}

type weighed either

func (e *either) Do(m *Machine) { m.Next(e.left, (*weighed)(e)) }

func (e *weighed) Do(m *Machine) {
	v := m.Pop()
	if value.Truth(v) == e.enough {
		m.Give(v)
		return
	}
	m.Next(e.right)
}

type cond struct{ test, then, other *Step }

type chosen cond

func (c *cond) Do(m *Machine) { m.Next(c.test, (*chosen)(c)) }

func (c *chosen) Do(m *Machine) {
	if value.Truth(m.Pop()) {
		m.Next(c.then)
		return
	}
	m.Next(c.other)
}
