package machine

import "shuck/api"

// scope is one of chapter 7 that was entered. Those that have no names are not.
type scope struct {
	outer *scope
	far   *scope // one further out: by such leaps any scope about this one is found soon, however many there are
	depth int    // how many scopes stand about it
	slots []slot
}

// slot is a variable.
type slot struct {
	value api.Value
	has   bool // it has one
}

// The slots of the surroundings; their things have the same numbers, since they are made ahead of all.
const (
	printAt = 0
	inputAt = 1
)

// outermost is the surroundings.
func outermost() *scope {
	s := &scope{slots: make([]slot, inputAt+1)}
	s.outer, s.far = s, s
	return s
}

// within is a new scope within another one. Its leap is that one's two leaps, if those are as long as one another: so the lengths of leaps double.
func (s *scope) within(names int) *scope {
	inner := &scope{outer: s, far: s, depth: s.depth + 1, slots: make([]slot, names)}
	if once := s.far; s.depth-once.depth == once.depth-once.far.depth {
		inner.far = once.far
	}
	return inner
}

// about is the scope of that depth that stands about this one, or it itself.
func (s *scope) about(depth int) *scope {
	for s.depth > depth {
		if s.far.depth >= depth {
			s = s.far
		} else {
			s = s.outer
		}
	}
	return s
}

// Variable is what a name stands for, told from the place where it is used.
type Variable struct {
	Name        string
	depth, slot int
}

func (v *Variable) in(s *scope) *slot { return &s.about(v.depth).slots[v.slot] }

// Read reads a variable. One that has no value yet throws.
func (m *Machine) Read(v *Variable) (api.Value, bool) {
	s := v.in(m.scope)
	if !s.has {
		m.throw("ReferenceError: " + v.Name)
	}
	return s.value, s.has
}

// assign assigns to a variable that has a value; one that has none throws.
func (m *Machine) assign(v *Variable, to api.Value) bool {
	s := v.in(m.scope)
	if !s.has {
		m.throw("ReferenceError: " + v.Name)
		return false
	}
	s.value = to
	return true
}

// Begin gives a variable its first value.
func (m *Machine) Begin(v *Variable, with api.Value) { *v.in(m.scope) = slot{with, true} }

// Names is what a scope lays when it is entered.
type Names struct {
	count int
	funcs []laidFunc
}

// laidFunc is a Func, and the slot of its variable.
type laidFunc struct {
	slot     int
	function *function
}

// Enter lays the variables of a scope, and goes back to the one about it when what is put onto the stack next is done. It tells whether there was room for its Funcs.
func (m *Machine) Enter(n *Names) bool {
	if n.count == 0 {
		return true
	}
	m.Next(&rescope{m.scope})
	m.scope = m.scope.within(n.count)
	for _, f := range n.funcs {
		v, ok := m.makeFunction(f.function, present{scope: m.scope})
		if !ok {
			return false
		}
		m.scope.slots[f.slot] = slot{v, true}
	}
	return true
}

// enterWith lays a scope whose variables have values at once: those that are given, the others undefined.
func (m *Machine) enterWith(count int, given ...api.Value) {
	if count == 0 {
		return
	}
	m.scope = m.scope.within(count)
	for i := range m.scope.slots {
		m.scope.slots[i].has = true
	}
	for i, v := range given[:min(count, len(given))] {
		m.scope.slots[i].value = v
	}
}
