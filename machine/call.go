package machine

import (
	"slices"
	"strings"

	"shuck/api"
)

// function is a Func, a Method, a Ctor or an Arrow as it stands.
type function struct {
	params int
	body   *Step
	arrow  bool // this is that of where it was made
	value  bool // its body is an expression
}

// closure is a function and where it was made.
type closure struct {
	*function
	present // of where it was made; of a Method home is its class
}

// makeFunction makes a function that keeps the scopes that it is told.
func (m *Machine) makeFunction(f *function, where present) (api.Value, bool) {
	v, ok := m.lay(api.CFunction, -1)
	if ok {
		m.functions[v.Num] = &closure{f, where}
	}
	return v, ok
}

// arrow is an Arrow as an expression.
type arrow struct{ *function }

func (a *arrow) Do(m *Machine) {
	if f, ok := m.makeFunction(a.function, m.present); ok {
		m.Give(f)
	}
}

// called is what stands on the stack while a function is at work: its end, and what takes its Return.
type called struct {
	bookmark
	value bool // one is given within it
}

func (c *called) Do(m *Machine) {
	var v api.Value
	if c.value {
		v = m.Pop()
	}
	m.back(c.bookmark)
	m.Give(v)
}

func (c *called) meet(m *Machine, e ending) bool {
	if e.how != returning {
		return false
	}
	m.back(c.bookmark)
	m.Give(e.value)
	return true
}

// mayCall tells whether one more call may be under way; the run ends, if none may.
func (m *Machine) mayCall() bool {
	if m.calls < api.MaxFrames {
		return true
	}
	m.stop(api.EndDeep)
	return false
}

// call calls a function: its value is given.
func (m *Machine) call(f *closure, this api.Value, args []api.Value) {
	if !m.EnterCall(f.value) {
		return
	}
	m.Next(f.body)
	if f.arrow {
		this = f.this
	}
	m.present = present{f.scope, this, f.home, m.calls}
	m.enterWith(f.params, args...)
}

// EnterCall has what is put onto the stack next be a call, and tells whether one more may be under way. At its end the call gives a value: undefined, or the one that is given within it.
func (m *Machine) EnterCall(value bool) bool {
	if !m.mayCall() {
		return false
	}
	m.Next(&called{m.here(), value})
	m.calls++
	return true
}

// call is a Call: its first kid gives what is this of the call, and the function.
type call struct {
	callee Task
	args   []Task
	push   bool // its first kid is a Member `push`
}

type applied call

// alone is an expression that is called and has no owner: this is undefined.
type alone struct{ callee *Step }

func (a *alone) Do(m *Machine) {
	m.Give(api.Value{})
	m.Next(a.callee)
}

// Callee is the first kid of a Call as what gives two values, this and its own.
func Callee(s *Step) Task {
	if o, ok := s.Kind.(Owner); ok {
		return o.Owned()
	}
	return &alone{s}
}

// Pushes tells whether the first kid of a Call is a Member push.
func Pushes(s *Step) bool {
	if o, ok := s.Kind.(Owner); ok {
		return o.Pushes()
	}
	return false
}

func (c *call) Do(m *Machine) { m.Next(c.callee, InOrder(c.args), (*applied)(c)) }

func (c *applied) Do(m *Machine) {
	args := m.take(len(c.args))
	f := m.Pop()
	this := m.Pop()
	switch {
	case c.push && m.kind(this) == api.CArray:
		if m.pushAll(this, args) {
			m.Give(number(m.heap.Len(this.Num)))
		}
	case m.kind(f) != api.CFunction:
		m.throw("TypeError: no function")
	case f.Num == printAt:
		m.print(args)
	case f.Num == inputAt:
		m.input()
	default:
		m.call(m.functions[f.Num], this, args)
	}
}

func (m *Machine) print(args []api.Value) {
	var shown []string
	for _, v := range args {
		shown = append(shown, m.heap.Show(v))
	}
	m.outputs = append(m.outputs, strings.Join(shown, " "))
	m.Give(api.Value{})
}

func (m *Machine) input() {
	if len(m.inputs) == 0 {
		m.Give(api.Value{Kind: api.VNull})
		return
	}
	m.Give(text(m.inputs[0]))
	m.inputs = m.inputs[1:]
}

// creation is a New.
type creation struct {
	class *Step
	args  []Task
}

type created creation

func (c *creation) Do(m *Machine) { m.Next(c.class, InOrder(c.args), (*created)(c)) }

func (c *created) Do(m *Machine) {
	args := m.take(len(c.args))
	class := m.Pop()
	if m.kind(class) != api.CClass {
		m.throw(noClass)
		return
	}
	s := m.classes[class.Num]
	if this, ok := m.lay(api.CObject, s.prototype.Num); ok {
		m.Next(&giver{this})
		m.make(s, this, args)
	}
}

// super is a Super.
type super struct{ args []Task }

type supered super

func (s *super) Do(m *Machine) { m.Next(InOrder(s.args), (*supered)(s)) }

func (s *supered) Do(m *Machine) {
	args := m.take(len(s.args))
	m.Next((*fielding)(m.home), &giver{})
	m.make(m.home.base, m.this, args)
}

// making is what stands on the stack while an object is made: its end, and what takes the Return of a Ctor.
type making struct{ bookmark }

func (x *making) Do(m *Machine) { m.back(x.bookmark) }

func (x *making) meet(m *Machine, e ending) bool {
	if e.how != returning {
		return false
	}
	m.back(x.bookmark)
	return true
}

// make has an object made by a class.
func (m *Machine) make(s *shape, this api.Value, args []api.Value) {
	if !m.mayCall() {
		return
	}
	m.Next(&making{m.here()})
	m.present = present{s.scope, this, s, m.calls + 1}
	switch {
	case s.base == nil && s.ctor == nil:
		m.Next((*fielding)(s))
	case s.base == nil:
		m.Next((*fielding)(s), &constructing{s.ctor, slices.Clone(args)})
	case s.ctor != nil:
		m.construct(s.ctor, args)
	default:
		m.Next((*fielding)(s))
		m.make(s.base, this, args)
	}
}

// constructing is a Ctor that is to be done with arguments.
type constructing struct {
	ctor *function
	args []api.Value
}

func (c *constructing) Do(m *Machine) { m.construct(c.ctor, c.args) }

func (m *Machine) construct(ctor *function, args []api.Value) {
	m.enterWith(ctor.params, args...)
	m.Next(ctor.body)
}
