package machine

import "shuck/api"

// How a statement may end.
const (
	atEnd     = 0 // it was done to its end
	throwing  = 1
	returning = 2
	breaking  = 3
	going     = 4 // by a Continue
)

// ending is how a statement ended: what is thrown, and what is returned, is a value.
type ending struct {
	how   int
	value api.Value
}

// mark is a task that what ends early comes upon on its way down the stack. It may take that; then it has said what is done in its place.
type mark interface {
	Task
	meet(m *Machine, e ending) bool
}

// bookmark is where the machine was when a mark was put onto the stack.
type bookmark struct {
	present
	height int // of the values
}

func (m *Machine) here() bookmark { return bookmark{m.present, len(m.values)} }

func (m *Machine) back(to bookmark) {
	m.present = to.present
	m.values = m.values[:to.height]
}

// leave drops what was to be done, up to the mark that takes the ending. A thrown value that none takes ends the run.
func (m *Machine) leave(e ending) {
	for len(m.tasks) > 0 {
		if met, ok := m.drop().(mark); ok && met.meet(m, e) {
			return
		}
	}
	m.stop(api.EndThrow)
	m.thrown = m.heap.Show(e.value)
}

// throw throws a text.
func (m *Machine) throw(words string) { m.leave(ending{throwing, text(words)}) }

// rescope goes back to a scope, where one within it is left at its end.
type rescope struct{ scope *scope }

func (r *rescope) Do(m *Machine) { m.scope = r.scope }

// list is tasks one behind the other, that take one place on the stack: what leaves them early need not drop each.
type list struct{ left []Task }

// InOrder is a task that does others, one behind the other.
func InOrder(l []Task) Task {
	switch len(l) {
	case 0:
		return nothing{}
	case 1:
		return l[0]
	}
	return &list{l}
}

func (l *list) Do(m *Machine) {
	first := l.left[0]
	l.left = l.left[1:]
	if len(l.left) > 0 {
		m.Next(l)
	}
	m.Next(first)
}

type nothing struct{}

func (nothing) Do(*Machine) {}

// giver gives a value.
type giver struct{ value api.Value }

func (g *giver) Do(m *Machine) { m.Give(g.value) }

// dropper drops the value of what was done for its own sake.
type dropper struct{}

func (dropper) Do(m *Machine) { m.Pop() }
