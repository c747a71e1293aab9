package run

import (
	"unicode/utf8"

	"shuck/api"
	"shuck/value"
)

// loop is what goes on behind each of its rounds.
type loop interface{ again(m *machine) }

// round is the mark of a loop's Block: its end, and what takes its Break and its Continue.
type round struct {
	bookmark
	loop loop
}

func (r *round) do(m *machine) {
	m.back(r.bookmark)
	r.loop.again(m)
}

func (r *round) meet(m *machine, e ending) bool {
	switch e.how {
	case breaking:
		m.back(r.bookmark)
		return true
	case going:
		r.do(m)
		return true
	}
	return false
}

// cycle is a While, and what a For does behind its Var.
type cycle struct {
	test  *step // nil: it is truthy
	body  *step
	after *step // nil: there is none
}

// asking is a cycle that is at its beginning.
type asking cycle

// asked is a cycle whose test was done.
type asked cycle

func (c *asking) do(m *machine) {
	if c.test == nil {
		(*cycle)(c).begin(m)
		return
	}
	m.next(c.test, (*asked)(c))
}

func (c *asked) do(m *machine) {
	if value.Truth(m.pop()) {
		(*cycle)(c).begin(m)
	}
}

func (c *cycle) begin(m *machine) { m.next(c.body, &round{m.here(), c}) }

func (c *cycle) again(m *machine) {
	if c.after == nil {
		m.next((*asking)(c))
		return
	}
	m.next(c.after, dropper{}, (*asking)(c))
}

type while struct{ cycle }

func (w *while) do(m *machine) { m.next((*asking)(&w.cycle)) }

// forLoop is a For: one variable for all rounds.
type forLoop struct {
	names
	first task
	cycle
}

func (f *forLoop) do(m *machine) {
	if m.enter(&f.names) {
		m.next(f.first, (*asking)(&f.cycle))
	}
}

// forOf is a ForOf: its variable is laid anew for each value.
type forOf struct{ of, body *step }

type overOne forOf

func (f *forOf) do(m *machine) { m.next(f.of, (*overOne)(f)) }

func (f *overOne) do(m *machine) {
	of := m.pop()
	switch {
	case of.Kind == api.VString:
		(&overText{(*forOf)(f), of.Text}).again(m)
	case m.kind(of) == api.CArray:
		(&overArray{(*forOf)(f), of, 0}).again(m)
	default:
		m.throw("TypeError: not iterable")
	}
}

// overArray is a ForOf that goes through an array's values: those that there are when it comes to them.
type overArray struct {
	*forOf
	of   api.Value
	next int
}

func (o *overArray) again(m *machine) {
	if o.next == m.heap.Len(o.of.Num) {
		return
	}
	v, _, _ := m.heap.At(o.of, number(o.next))
	o.next++
	m.roundWith(o, o.forOf, v)
}

// overText is a ForOf that goes through a text's runes.
type overText struct {
	*forOf
	left string
}

func (o *overText) again(m *machine) {
	if o.left == "" {
		return
	}
	r, size := utf8.DecodeRuneInString(o.left)
	o.left = o.left[size:]
	m.roundWith(o, o.forOf, text(string(r)))
}

// roundWith begins a round with a value.
func (m *machine) roundWith(l loop, f *forOf, v api.Value) {
	m.next(f.body, &round{m.here(), l})
	m.enterWith(1, v)
}
