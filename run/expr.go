package run

import (
	"strings"

	"shuck/api"
	"shuck/value"
)

// constant is an expression that has one value.
type constant struct{ value api.Value }

func (c *constant) do(m *machine) { m.give(c.value) }

type thisOne struct{}

func (thisOne) do(m *machine) { m.give(m.this) }

type name struct{ variable }

func (n *name) do(m *machine) {
	if v, ok := m.read(&n.variable); ok {
		m.give(v)
	}
}

type template struct {
	pieces []string // one more than holes
	holes  []task
}

type joined template

func (t *template) do(m *machine) { m.next(inOrder(t.holes), (*joined)(t)) }

func (t *joined) do(m *machine) {
	holes := m.take(len(t.holes))
	var s strings.Builder
	for i, piece := range t.pieces {
		s.WriteString(piece)
		if i < len(holes) {
			s.WriteString(m.heap.Show(holes[i]))
		}
		if s.Len() > api.MaxBytes {
			m.stop(api.EndHeap)
			return
		}
	}
	m.give(text(s.String()))
}

type array struct{ values []task }

type arrayed array

func (a *array) do(m *machine) { m.next(inOrder(a.values), (*arrayed)(a)) }

func (a *arrayed) do(m *machine) {
	l, ok := m.lay(api.CArray, -1)
	if ok && m.pushAll(l, m.take(len(a.values))) {
		m.give(l)
	}
}

// pushAll lays values at an array's end, one by one, and tells whether there was room for all.
func (m *machine) pushAll(l api.Value, values []api.Value) bool {
	for _, v := range values {
		if _, fault := m.heap.Push(l.Num, v); !m.went("", fault) {
			return false
		}
	}
	return true
}

type object struct {
	keys   []string
	values []task
}

type objected object

func (o *object) do(m *machine) { m.next(inOrder(o.values), (*objected)(o)) }

func (o *objected) do(m *machine) {
	made, ok := m.lay(api.CObject, -1)
	if !ok {
		return
	}
	for i, v := range m.take(len(o.values)) {
		if !m.went(m.heap.Set(made, o.keys[i], v)) {
			return
		}
	}
	m.give(made)
}

type unary struct {
	op    string
	value *step
}

type turned unary

func (u *unary) do(m *machine) { m.next(u.value, (*turned)(u)) }

func (u *turned) do(m *machine) {
	v := m.pop()
	if u.op == "typeof" {
		m.give(text(m.heap.Typeof(v)))
		return
	}
	m.settle(value.Unary(u.op, v))
}

type binary struct {
	op          string
	left, right *step
}

type combined binary

func (b *binary) do(m *machine) { m.next(b.left, b.right, (*combined)(b)) }

func (b *combined) do(m *machine) {
	right := m.pop()
	left := m.pop()
	m.settle(value.Binary(b.op, left, right))
}

// has is a Binary `in`.
type has struct {
	key, of *step
}

type looked has

func (h *has) do(m *machine) { m.next(h.key, h.of, (*looked)(h)) }

func (*looked) do(m *machine) {
	of := m.pop()
	key := m.pop()
	if key.Kind != api.VString {
		m.throw("TypeError: in")
		return
	}
	is, thrown, fault := m.heap.Has(of, key.Text)
	m.settle(truth(is), thrown, fault)
}

func truth(is bool) api.Value {
	v := api.Value{Kind: api.VBool}
	if is {
		v.Num = 1
	}
	return v
}

// either is a Binary `&&` or `||`: the left value, if its truth is that which is enough, else the right one.
type either struct {
	enough      bool
	left, right *step
}

type weighed either

func (e *either) do(m *machine) { m.next(e.left, (*weighed)(e)) }

func (e *weighed) do(m *machine) {
	v := m.pop()
	if value.Truth(v) == e.enough {
		m.give(v)
		return
	}
	m.next(e.right)
}

type cond struct{ test, then, other *step }

type chosen cond

func (c *cond) do(m *machine) { m.next(c.test, (*chosen)(c)) }

func (c *chosen) do(m *machine) {
	if value.Truth(m.pop()) {
		m.next(c.then)
		return
	}
	m.next(c.other)
}
