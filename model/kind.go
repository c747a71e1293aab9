package model

import (
	"iter"

	"shuck/api"
	"shuck/fold"
	"shuck/machine"
	"shuck/part"
)

// through is an As or a Bang: it is its kid.
type through struct{ *machine.Step }

// calledThrough is one that is called: it gives this, too.
type calledThrough struct{ callee machine.Task }

func (t *through) Do(m *machine.Machine) { m.Next(t.Step) }

func (c *calledThrough) Do(m *machine.Machine) { m.Next(c.callee) }

func (t *through) Owned() *machine.Step {
	return &machine.Step{Kind: &calledThrough{machine.Callee(t.Step)}}
}

func (t *through) Pushes() bool { return machine.Pushes(t.Step) }

// object is the value of an Enum that is not Const.
type object struct {
	members iter.Seq2[string, api.Value]
}

func (o *object) Do(m *machine.Machine) { m.GiveObject(o.members) }

func isConstEnum(node api.Node) bool { return node.Kind == api.Enum && node.Num == api.Const }

// members hands on the names and the values of an Enum's members.
func members(nodes []api.Node, enum int) iter.Seq2[string, api.Value] {
	l, _, _ := fold.Members(part.Tree(nodes, enum), 0)
	return func(yield func(string, api.Value) bool) {
		for _, c := range l {
			if !yield(c.Name, valueOf(c)) {
				return
			}
		}
	}
}

func valueOf(c api.Constant) api.Value {
	if c.IsText {
		return api.Value{Kind: api.VString, Text: c.Text}
	}
	return api.Value{Kind: api.VNumber, Num: c.Num}
}

// namespace is the value of a Namespace: its statements are a call, at whose end there is an object of what it exports.
type namespace struct {
	machine.Block
	exports []machine.Variable
}

type exporting namespace

func (s *namespace) Do(m *machine.Machine) {
	if m.EnterCall(true) && m.Enter(&s.Names) {
		m.Next(machine.InOrder(s.Statements), (*exporting)(s))
	}
}

func (e *exporting) Do(m *machine.Machine) { m.GiveObject(e.exported(m)) }

// exported hands on what is exported: each variable's name and its value. (All have one, since all statements were done.)
func (e *exporting) exported(m *machine.Machine) iter.Seq2[string, api.Value] {
	return func(yield func(string, api.Value) bool) {
		for i := range e.exports {
			v, ok := m.Read(&e.exports[i])
			if !ok || !yield(e.exports[i].Name, v) {
				return
			}
		}
	}
}

// keeper is the Block of a Ctor of which the object keeps Params as members.
type keeper struct {
	machine.Block
	params []machine.Variable
	behind int // so many statements are done ahead of that
}

type keeping keeper

func (k *keeper) Do(m *machine.Machine) {
	if m.Enter(&k.Names) {
		m.Next(machine.InOrder(k.Statements[:k.behind]), (*keeping)(k), machine.InOrder(k.Statements[k.behind:]))
	}
}

func (k *keeping) Do(m *machine.Machine) {
	for i := range k.params {
		v, ok := m.Read(&k.params[i])
		if !ok || !m.SetOwn(k.params[i].Name, v) {
			return
		}
	}
}
