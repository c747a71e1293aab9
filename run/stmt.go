package run

import "shuck/value"

// idle is a statement that does nothing: a Func, whose function is made when its scope is entered, and an Empty.
type idle struct{}

func (idle) do(*machine) {}

type declaration struct {
	variable
	value *step
}

type declared declaration

func (d *declaration) do(m *machine) { m.next(d.value, (*declared)(d)) }

func (d *declared) do(m *machine) { m.begin(&d.variable, m.pop()) }

// eval is an expression as a statement.
type eval struct{ value *step }

func (e *eval) do(m *machine) { m.next(e.value, dropper{}) }

// body is a scope and the statements in it: a Program is no step.
type body struct {
	names
	statements []task
}

func (b *body) do(m *machine) {
	if m.enter(&b.names) {
		m.next(inOrder(b.statements))
	}
}

type block struct{ body }

type branch struct {
	test, then *step
	other      task
}

type branched branch

func (b *branch) do(m *machine) { m.next(b.test, (*branched)(b)) }

func (b *branched) do(m *machine) {
	if value.Truth(m.pop()) {
		m.next(b.then)
		return
	}
	m.next(b.other)
}

// back is a Return.
type back struct {
	value *step // nil: it has none
}

type returned back

func (b *back) do(m *machine) {
	if b.value == nil {
		m.leave(ending{how: returning})
		return
	}
	m.next(b.value, (*returned)(b))
}

func (*returned) do(m *machine) { m.leave(ending{returning, m.pop()}) }

// jump is a Break or a Continue.
type jump struct{ how int }

func (j *jump) do(m *machine) { m.leave(ending{how: j.how}) }

type throw struct{ value *step }

type thrown throw

func (t *throw) do(m *machine) { m.next(t.value, (*thrown)(t)) }

func (*thrown) do(m *machine) { m.leave(ending{throwing, m.pop()}) }

// try is a Try: its last Block is put off by marks until all else that it does has ended.
type try struct {
	first, caught, last *step // caught, last: nil, if there is none
}

// trying is the mark of a Try whose first Block is at work.
type trying struct {
	bookmark
	*try
}

// catching is the mark of a Try with a last Block whose Catch is at work.
type catching struct {
	bookmark
	*try
}

// finishing is the mark of a Try whose last Block is at work: what was ahead of it goes on behind it.
type finishing struct{ ahead ending }

func (t *try) do(m *machine) { m.next(t.first, &trying{m.here(), t}) }

func (t *trying) do(m *machine) { t.finish(m, ending{}) }

func (t *trying) meet(m *machine, e ending) bool {
	m.back(t.bookmark)
	if e.how != throwing || t.caught == nil {
		return t.finish(m, e)
	}
	if t.last != nil {
		m.next(&catching{t.bookmark, t.try})
	}
	m.next(t.caught, &rescope{m.scope})
	m.enterWith(1, e.value)
	return true
}

func (c *catching) do(m *machine) { c.finish(m, ending{}) }

func (c *catching) meet(m *machine, e ending) bool {
	m.back(c.bookmark)
	return c.finish(m, e)
}

// finish has the last Block done, if there is one, and tells whether there is.
func (t *try) finish(m *machine, ahead ending) bool {
	if t.last == nil {
		return false
	}
	m.next(t.last, &finishing{ahead})
	return true
}

func (f *finishing) do(m *machine) {
	if f.ahead.how != atEnd {
		m.leave(f.ahead)
	}
}
