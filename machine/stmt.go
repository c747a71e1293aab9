package machine

import "shuck/value"

// Idle is a statement that does nothing: a Func, whose function is made when its scope is entered, and an Empty.
type Idle struct{}

func (Idle) Do(*Machine) {}

// Declaration is a Var, and what else has its variable when its value is done.
type Declaration struct {
	Variable
	Value Task
}

type declared Declaration

func (d *Declaration) Do(m *Machine) { m.Next(d.Value, (*declared)(d)) }

func (d *declared) Do(m *Machine) { m.Begin(&d.Variable, m.Pop()) }

// eval is an expression as a statement.
type eval struct{ value *Step }

func (e *eval) Do(m *Machine) { m.Next(e.value, dropper{}) }

// Block is a scope and the statements in it: a Block, and a Program, which is no step.
type Block struct {
	Names
	Statements []Task
}

func (b *Block) Do(m *Machine) {
	if m.Enter(&b.Names) {
		m.Next(InOrder(b.Statements))
	}
}

type branch struct {
	test, then *Step
	other      Task
}

type branched branch

func (b *branch) Do(m *Machine) { m.Next(b.test, (*branched)(b)) }

func (b *branched) Do(m *Machine) {
	if value.Truth(m.Pop()) {
		m.Next(b.then)
		return
	}
	m.Next(b.other)
}

// back is a Return.
type back struct {
	value *Step // nil: it has none
}

type returned back

func (b *back) Do(m *Machine) {
	if b.value == nil {
		m.leave(ending{how: returning})
		return
	}
	m.Next(b.value, (*returned)(b))
}

func (*returned) Do(m *Machine) { m.leave(ending{returning, m.Pop()}) }

// jump is a Break or a Continue.
type jump struct{ how int }

func (j *jump) Do(m *Machine) { m.leave(ending{how: j.how}) }

type throw struct{ value *Step }

type thrown throw

func (t *throw) Do(m *Machine) { m.Next(t.value, (*thrown)(t)) }

func (*thrown) Do(m *Machine) { m.leave(ending{throwing, m.Pop()}) }

// try is a Try: its last Block is put off by marks until all else that it does has ended.
type try struct {
	first, caught, last *Step // caught, last: nil, if there is none
}

// trying is the mark of a Try whose first Block is at work.
type trying struct {
	bookmark
	*try
}

// catching is the mark of a Try with a last Block whose Catch is at work.
type catching struct {
	bookmark
	*try
}

// finishing is the mark of a Try whose last Block is at work: what was ahead of it goes on behind it.
type finishing struct{ ahead ending }

func (t *try) Do(m *Machine) { m.Next(t.first, &trying{m.here(), t}) }

func (t *trying) Do(m *Machine) { t.finish(m, ending{}) }

func (t *trying) meet(m *Machine, e ending) bool {
	m.back(t.bookmark)
	if e.how != throwing || t.caught == nil {
		return t.finish(m, e)
	}
	if t.last != nil {
		m.Next(&catching{t.bookmark, t.try})
	}
	m.Next(t.caught, &rescope{m.scope})
	m.enterWith(1, e.value)
	return true
}

func (c *catching) Do(m *Machine) { c.finish(m, ending{}) }

func (c *catching) meet(m *Machine, e ending) bool {
	m.back(c.bookmark)
	return c.finish(m, e)
}

// finish has the last Block done, if there is one, and tells whether there is.
func (t *try) finish(m *Machine, ahead ending) bool {
	if t.last == nil {
		return false
	}
	m.Next(t.last, &finishing{ahead})
	return true
}

func (f *finishing) Do(m *Machine) {
	if f.ahead.how != atEnd {
		m.leave(f.ahead)
	}
}
