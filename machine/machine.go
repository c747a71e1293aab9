// Package machine is programs at work: what their nodes do, step by step. Chapter 16's programs run on it as they are; chapter 17's have kinds of their own beside its kinds, in which these are embedded.
package machine

import (
	"iter"

	"shuck/api"
	"shuck/heap"
)

// Task is what is to be done next: it stands on the machine's stack.
type Task interface{ Do(m *Machine) }

// Step is an expression or a statement: to do it is to begin it. What is done behind that, its kind puts onto the stack.
type Step struct{ Kind Task }

func (s *Step) Do(m *Machine) { s.Kind.Do(m) }

// Machine is a program at work.
type Machine struct {
	present
	heap      *heap.Heap
	functions map[int]*closure // by the numbers of their things
	classes   map[int]*shape
	inputs    []string // that were not taken yet
	outputs   []string
	thrown    string
	tasks     []Task      // the last one is done first
	values    []api.Value // of what was done, for the tasks that wait for them
	fuel      int
	steps     int
	end       int // 0: the run goes on
}

// present is what hangs on the call that is under way.
type present struct {
	scope *scope
	this  api.Value
	home  *shape // the class in whose Method, Ctor or Field the machine is
	calls int    // how many are under way
}

// New is a machine that may take so many steps and cells: ErrArg, if there may not be as many.
func New(inputs []string, fuel, cells int) (*Machine, api.Errno) {
	h, e := heap.New(cells)
	if e != api.OK || fuel < 0 || fuel > api.MaxFuel {
		return nil, api.ErrArg
	}
	return &Machine{heap: h, functions: map[int]*closure{}, classes: map[int]*shape{}, inputs: inputs, fuel: fuel}, api.OK
}

// Run does a program, and tells how that ended.
func (m *Machine) Run(program Task) api.Outcome {
	if m.surround() {
		m.Next(program)
		m.drive()
	}
	return m.outcome()
}

// surround makes what stands about the Program, and tells whether there was room.
func (m *Machine) surround() bool {
	m.scope = outermost()
	for i := range m.scope.slots {
		v, ok := m.lay(api.CFunction, -1)
		if !ok {
			return false
		}
		m.scope.slots[i] = slot{v, true}
	}
	return true
}

// drive begins step after step, until nothing is left to do or the run has ended.
func (m *Machine) drive() {
work:
	for next := range m.left() {
		switch m.steps {
		case m.fuel:
			m.stop(api.EndFuel)
			break work
		default:
			m.steps++
			next.Do(m)
		}
	}
	if m.end == 0 {
		m.end = api.EndDone
	}
}

// left yields the steps that are to be begun, one by one, and does what is put off between them.
func (m *Machine) left() iter.Seq[*Step] {
	return func(yield func(*Step) bool) {
		for m.end == 0 && len(m.tasks) > 0 {
			switch next := m.drop().(type) {
			case *Step:
				if !yield(next) {
					return
				}
			default:
				next.Do(m)
			}
		}
	}
}

// Next puts tasks onto the stack, so that they are done in this order, ahead of all that is there.
func (m *Machine) Next(l ...Task) {
	for i := len(l) - 1; i >= 0; i-- {
		m.tasks = append(m.tasks, l[i])
	}
}

// drop takes the task off the stack that would be done next.
func (m *Machine) drop() Task {
	last := len(m.tasks) - 1
	t := m.tasks[last]
	m.tasks[last] = nil
	m.tasks = m.tasks[:last]
	return t
}

// Give tells a value to the task that waits for it.
func (m *Machine) Give(v api.Value) { m.values = append(m.values, v) }

// Pop takes the last value that was given.
func (m *Machine) Pop() api.Value {
	last := len(m.values) - 1
	v := m.values[last]
	m.values = m.values[:last]
	return v
}

// take takes the last values that were given, in the order in which they were. They are there until another one is given.
func (m *Machine) take(count int) []api.Value {
	first := len(m.values) - count
	l := m.values[first:]
	m.values = m.values[:first]
	return l
}

// stop ends the run: no Try sees that.
func (m *Machine) stop(end int) { m.end = end }

// went tells whether an operation had no fault, and does what a fault asks for.
func (m *Machine) went(thrown string, fault int) bool {
	switch fault {
	case api.FaultNone:
		return true
	case api.FaultThrow:
		m.throw(thrown)
	case api.FaultInexact:
		m.stop(api.EndInexact)
	case api.FaultFull:
		m.stop(api.EndHeap)
	}
	return false
}

// settle gives what an operation made, if it had no fault.
func (m *Machine) settle(v api.Value, thrown string, fault int) {
	if m.went(thrown, fault) {
		m.Give(v)
	}
}

// lay makes a thing, if there is room for it.
func (m *Machine) lay(kind, proto int) (api.Value, bool) {
	n, fault := m.heap.Make(kind, proto)
	return api.Value{Kind: api.VRef, Num: n}, m.went("", fault)
}

// kind is the kind of the thing that a value stands for; 0: it stands for none.
func (m *Machine) kind(v api.Value) int {
	if v.Kind != api.VRef {
		return 0
	}
	return m.heap.Kind(v.Num)
}

func (m *Machine) outcome() api.Outcome {
	return api.Outcome{End: m.end, Thrown: m.thrown, Outputs: m.outputs, Steps: m.steps, Cells: m.heap.Used()}
}

func text(s string) api.Value { return api.Value{Kind: api.VString, Text: s} }

func number(n int) api.Value { return api.Value{Kind: api.VNumber, Num: n} }
