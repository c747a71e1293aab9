package model

import (
	"iter"
	"maps"
	"slices"

	"shuck/api"
	"shuck/machine"
)

// builder makes what is not plain; the machine's own builder, which is embedded, makes all else.
type builder struct {
	*machine.Builder
	nodes []api.Node
	cases map[int]api.Value // of each Member of a Const Enum, its value
	ctors map[int]ctor      // of the Block of each Ctor, if it has such Params
}

// ctor is a Ctor of which the object keeps Params as members.
type ctor struct {
	params []int
	behind int // so many statements of its Block are done ahead of that
}

func newBuilder(nodes []api.Node, uses []api.Use) *builder {
	b := &builder{machine.NewBuilder(nodes, uses), nodes, map[int]api.Value{}, map[int]ctor{}}
	b.readUses(uses)
	for n, node := range nodes {
		if node.Kind == api.Class {
			b.readClass(n)
		}
	}
	return b
}

// readUses notes the Members of Const Enums.
func (b *builder) readUses(uses []api.Use) {
	values := map[int]map[string]api.Value{} // of each Const Enum that is used, by the names of its members
	for _, u := range uses {
		if u.Decl < 0 || !isConstEnum(b.nodes[u.Decl]) {
			continue
		}
		if values[u.Decl] == nil {
			values[u.Decl] = maps.Collect(members(b.nodes, u.Decl))
		}
		// Chapter 13 takes no other use of one than the kid of a Member, and that is the node behind it.
		member := u.At - 1
		b.cases[member] = values[u.Decl][b.nodes[member].Text]
	}
}

// readClass notes the Ctor of a Class, if objects keep some of its Params.
func (b *builder) readClass(n int) {
	kids := b.nodes[n].Kids
	for _, x := range b.nodes[kids[3]].Kids {
		if b.nodes[x].Kind != api.Ctor {
			continue
		}
		c := ctor{params: b.keptParams(x)}
		if b.nodes[kids[1]].Kind == api.Base {
			c.behind = 1
		}
		if block := b.nodes[x].Kids[1]; len(c.params) > 0 {
			b.ctors[block] = c
		}
	}
}

func (b *builder) keptParams(ctor int) []int {
	var l []int
	for _, p := range b.nodes[b.nodes[ctor].Kids[0]].Kids {
		if b.nodes[p].Num&(api.Public|api.Readonly) != 0 {
			l = append(l, p)
		}
	}
	return l
}

// build makes the step of a node, if it is one.
func (b *builder) build(n int) {
	switch b.nodes[n].Kind {
	case api.As, api.Bang:
		b.Put(n, &through{b.Step(n, 0)})
	case api.Interface, api.Alias:
		b.Put(n, machine.Idle{})
	case api.Enum:
		b.enum(n)
	case api.Namespace:
		b.declare(n, &namespace{b.Block(n), b.variables(b.exported(n))})
	case api.Export:
		b.Pass(n, 0)
	case api.Member:
		b.member(n)
	case api.Block:
		b.block(n)
	default:
		b.Build(n)
	}
}

func (b *builder) enum(n int) {
	if isConstEnum(b.nodes[n]) {
		b.Put(n, machine.Idle{})
		return
	}
	b.declare(n, &object{members(b.nodes, n)})
}

// declare has a node give its variable a value, which is no step.
func (b *builder) declare(n int, value machine.Task) {
	b.Put(n, &machine.Declaration{Variable: b.Declared(n), Value: value})
}

func (b *builder) member(n int) {
	if v, ok := b.cases[n]; ok {
		b.Put(n, &machine.Constant{Value: v})
		return
	}
	b.Build(n)
}

func (b *builder) block(n int) {
	if c, ok := b.ctors[n]; ok {
		b.Put(n, &keeper{b.Block(n), b.variables(slices.Values(c.params)), c.behind})
		return
	}
	b.Build(n)
}

// variables are those that nodes declare.
func (b *builder) variables(nodes iter.Seq[int]) []machine.Variable {
	var l []machine.Variable
	for n := range nodes {
		l = append(l, b.Declared(n))
	}
	return l
}

// exported hands on what a Namespace exports, but for what is for types.
func (b *builder) exported(n int) iter.Seq[int] {
	return func(yield func(int) bool) {
		for _, x := range b.nodes[n].Kids {
			if b.nodes[x].Kind != api.Export {
				continue
			}
			switch kid := b.nodes[x].Kids[0]; b.nodes[kid].Kind {
			case api.Interface, api.Alias:
			default:
				if !yield(kid) {
					return
				}
			}
		}
	}
}
