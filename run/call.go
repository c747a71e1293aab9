package run

import (
	"slices"
	"strings"

	"shuck/api"
)

// function is a Func, a Method, a Ctor or an Arrow as it stands.
type function struct {
	params int
	body   *step
	arrow  bool // this is that of where it was made
	value  bool // its body is an expression
}

// closure is a function and where it was made.
type closure struct {
	*function
	present // of where it was made; of a Method home is its class
}

// makeFunction makes a function that keeps the scopes that it is told.
func (m *machine) makeFunction(f *function, where present) (api.Value, bool) {
	v, ok := m.lay(api.CFunction, -1)
	if ok {
		m.functions[v.Num] = &closure{f, where}
	}
	return v, ok
}

// arrow is an Arrow as an expression.
type arrow struct{ *function }

func (a *arrow) do(m *machine) {
	if f, ok := m.makeFunction(a.function, m.present); ok {
		m.give(f)
	}
}

// called is what stands on the stack while a function is at work: its end, and what takes its Return.
type called struct {
	bookmark
	value bool // its body is an expression
}

func (c *called) do(m *machine) {
	var v api.Value
	if c.value {
		v = m.pop()
	}
	m.back(c.bookmark)
	m.give(v)
}

func (c *called) meet(m *machine, e ending) bool {
	if e.how != returning {
		return false
	}
	m.back(c.bookmark)
	m.give(e.value)
	return true
}

// mayCall tells whether one more call may be under way; the run ends, if none may.
func (m *machine) mayCall() bool {
	if m.calls < api.MaxFrames {
		return true
	}
	m.stop(api.EndDeep)
	return false
}

// call calls a function: its value is given.
func (m *machine) call(f *closure, this api.Value, args []api.Value) {
	if !m.mayCall() {
		return
	}
	m.next(f.body, &called{m.here(), f.value})
	if f.arrow {
		this = f.this
	}
	m.present = present{f.scope, this, f.home, m.calls + 1}
	m.enterWith(f.params, args...)
}

// call is a Call: its first kid gives what is this of the call, and the function.
type call struct {
	callee task
	args   []task
	push   bool // its first kid is a Member `push`
}

type applied call

// alone is an expression that is called and has no owner: this is undefined.
type alone struct{ callee *step }

func (a *alone) do(m *machine) {
	m.give(api.Value{})
	m.next(a.callee)
}

// callee is the first kid of a Call as what gives two values.
func callee(s *step) task {
	if o, ok := s.kind.(owner); ok {
		return o.owned()
	}
	return &alone{s}
}

func (c *call) do(m *machine) { m.next(c.callee, inOrder(c.args), (*applied)(c)) }

func (c *applied) do(m *machine) {
	args := m.take(len(c.args))
	f := m.pop()
	this := m.pop()
	switch {
	case c.push && m.kind(this) == api.CArray:
		if m.pushAll(this, args) {
			m.give(number(m.heap.Len(this.Num)))
		}
	case m.kind(f) != api.CFunction:
		m.throw("TypeError: no function")
	case f.Num == printAt:
		m.print(args)
	case f.Num == inputAt:
		m.input()
	default:
		m.call(m.functions[f.Num], this, args)
	}
}

func (m *machine) print(args []api.Value) {
	var shown []string
	for _, v := range args {
		shown = append(shown, m.heap.Show(v))
	}
	m.outputs = append(m.outputs, strings.Join(shown, " "))
	m.give(api.Value{})
}

func (m *machine) input() {
	if len(m.inputs) == 0 {
		m.give(api.Value{Kind: api.VNull})
		return
	}
	m.give(text(m.inputs[0]))
	m.inputs = m.inputs[1:]
}

// creation is a New.
type creation struct {
	class *step
	args  []task
}

type created creation

func (c *creation) do(m *machine) { m.next(c.class, inOrder(c.args), (*created)(c)) }

func (c *created) do(m *machine) {
	args := m.take(len(c.args))
	class := m.pop()
	if m.kind(class) != api.CClass {
		m.throw(noClass)
		return
	}
	s := m.classes[class.Num]
	if this, ok := m.lay(api.CObject, s.prototype.Num); ok {
		m.next(&giver{this})
		m.make(s, this, args)
	}
}

// super is a Super.
type super struct{ args []task }

type supered super

func (s *super) do(m *machine) { m.next(inOrder(s.args), (*supered)(s)) }

func (s *supered) do(m *machine) {
	args := m.take(len(s.args))
	m.next((*fielding)(m.home), &giver{})
	m.make(m.home.base, m.this, args)
}

// making is what stands on the stack while an object is made: its end, and what takes the Return of a Ctor.
type making struct{ bookmark }

func (x *making) do(m *machine) { m.back(x.bookmark) }

func (x *making) meet(m *machine, e ending) bool {
	if e.how != returning {
		return false
	}
	m.back(x.bookmark)
	return true
}

// make has an object made by a class.
func (m *machine) make(s *shape, this api.Value, args []api.Value) {
	if !m.mayCall() {
		return
	}
	m.next(&making{m.here()})
	m.present = present{s.scope, this, s, m.calls + 1}
	switch {
	case s.base == nil && s.ctor == nil:
		m.next((*fielding)(s))
	case s.base == nil:
		m.next((*fielding)(s), &constructing{s.ctor, slices.Clone(args)})
	case s.ctor != nil:
		m.construct(s.ctor, args)
	default:
		m.next((*fielding)(s))
		m.make(s.base, this, args)
	}
}

// constructing is a Ctor that is to be done with arguments.
type constructing struct {
	ctor *function
	args []api.Value
}

func (c *constructing) do(m *machine) { m.construct(c.ctor, c.args) }

func (m *machine) construct(ctor *function, args []api.Value) {
	m.enterWith(ctor.params, args...)
	m.next(ctor.body)
}
