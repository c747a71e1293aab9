package machine

import (
	"unicode/utf8"

	"shuck/api"
	"shuck/value"
)

// loop is what goes on behind each of its rounds.
type loop interface{ again(m *Machine) }

// round is the mark of a loop's Block: its end, and what takes its Break and its Continue.
type round struct {
	bookmark
	loop loop
}

func (r *round) Do(m *Machine) {
	m.back(r.bookmark)
	r.loop.again(m)
}

func (r *round) meet(m *Machine, e ending) bool {
	switch e.how {
	case breaking:
		m.back(r.bookmark)
		return true
	case going:
		r.Do(m)
		return true
	}
	return false
}

// cycle is a While, and what a For does behind its Var.
type cycle struct {
	test  *Step // nil: it is truthy
	body  *Step
	after *Step // nil: there is none
}

// asking is a cycle that is at its beginning.
type asking cycle

// asked is a cycle whose test was done.
type asked cycle

func (c *asking) Do(m *Machine) {
	if c.test == nil {
		(*cycle)(c).begin(m)
		return
	}
	m.Next(c.test, (*asked)(c))
}

func (c *asked) Do(m *Machine) {
	if value.Truth(m.Pop()) {
		(*cycle)(c).begin(m)
	}
}

func (c *cycle) begin(m *Machine) { m.Next(c.body, &round{m.here(), c}) }

func (c *cycle) again(m *Machine) {
	if c.after == nil {
		m.Next((*asking)(c))
		return
	}
	m.Next(c.after, dropper{}, (*asking)(c))
}

type while struct{ cycle }

func (w *while) Do(m *Machine) { m.Next((*asking)(&w.cycle)) }

// forLoop is a For: one variable for all rounds.
type forLoop struct {
	Names
	first Task
	cycle
}

func (f *forLoop) Do(m *Machine) {
	if m.Enter(&f.Names) {
		m.Next(f.first, (*asking)(&f.cycle))
	}
}

// forOf is a ForOf: its variable is laid anew for each value.
type forOf struct{ of, body *Step }

type overOne forOf

func (f *forOf) Do(m *Machine) { m.Next(f.of, (*overOne)(f)) }

func (f *overOne) Do(m *Machine) {
	of := m.Pop()
	switch {
	case of.Kind == api.VString:
		(&overText{(*forOf)(f), of.Text}).again(m)
	case m.kind(of) == api.CArray:
		(&overArray{(*forOf)(f), of, 0}).again(m)
	default:
		m.throw("TypeError: not iterable")
	}
}

// overArray is a ForOf that goes through an array's values: those that there are when it comes to them.
type overArray struct {
	*forOf
	of   api.Value
	next int
}

func (o *overArray) again(m *Machine) {
	if o.next == m.heap.Len(o.of.Num) {
		return
	}
	v, _, _ := m.heap.At(o.of, number(o.next))
	o.next++
	m.roundWith(o, o.forOf, v)
}

// overText is a ForOf that goes through a text's runes.
type overText struct {
	*forOf
	left string
}

func (o *overText) again(m *Machine) {
	if o.left == "" {
		return
	}
	r, size := utf8.DecodeRuneInString(o.left)
	o.left = o.left[size:]
	m.roundWith(o, o.forOf, text(string(r)))
}

// roundWith begins a round with a value.
func (m *Machine) roundWith(l loop, f *forOf, v api.Value) {
	m.Next(f.body, &round{m.here(), l})
	m.enterWith(1, v)
}
