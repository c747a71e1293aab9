package machine

import (
	"cmp"
	"strings"

	"shuck/api"
)

// Builder makes of the nodes of a program what the machine does.
type Builder struct {
	*plan
	used      []place     // of each use, where the variable lies for which it stands
	steps     []*Step     // of each expression and statement
	functions []*function // of each Func, Method, Ctor and Arrow
}

// NewBuilder is a builder of a program's nodes, with chapter 7's uses of it.
func NewBuilder(nodes []api.Node, uses []api.Use) *Builder {
	b := &Builder{
		plan:      planned(nodes),
		used:      make([]place, len(nodes)),
		steps:     make([]*Step, len(nodes)),
		functions: make([]*function, len(nodes)),
	}
	for _, u := range uses {
		b.used[u.At] = b.stands(u)
	}
	return b
}

// Program is the whole program as a task. Its nodes are built from the last one to the first: so kids are there ahead of what they stand beneath.
func (b *Builder) Program(build func(n int)) Task {
	for n := len(b.nodes) - 1; n > 0; n-- {
		build(n)
	}
	whole := b.Block(0)
	return &whole
}

// stands is where the variable lies for which a use stands.
func (b *Builder) stands(u api.Use) place {
	switch {
	case u.Decl >= 0:
		return b.laid[u.Decl]
	case b.nodes[u.At].Text == "print":
		return place{b.within[0], printAt}
	}
	return place{b.within[0], inputAt}
}

// variable is a name, by the node that has it and the place for which it stands.
func (b *Builder) variable(n int, p place) Variable {
	return Variable{b.nodes[n].Text, p.area.depth, p.slot}
}

// Declared is the variable that a node declares.
func (b *Builder) Declared(n int) Variable { return b.variable(n, b.laid[n]) }

// Build makes the step or the function of a plain node, if it is one.
func (b *Builder) Build(n int) {
	switch b.nodes[n].Kind {
	case api.Arrow, api.Func, api.Method, api.Ctor:
		b.functions[n] = b.function(n)
	}
	if kind := b.kind(n); kind != nil {
		b.Put(n, kind)
	}
}

// Put has a node be a step of a kind.
func (b *Builder) Put(n int, kind Task) { b.steps[n] = &Step{kind} }

// Pass has a node be the same step as a kid of it.
func (b *Builder) Pass(n, i int) { b.steps[n] = b.Step(n, i) }

// kind is what is done when a node is begun; nil, if it is neither an expression nor a statement.
func (b *Builder) kind(n int) Task {
	return cmp.Or(b.single(n), b.compound(n), b.asking(n), b.declaring(n), b.statement(n), b.looping(n))
}

func (b *Builder) kid(n, i int) int { return b.nodes[n].Kids[i] }

// Step is the step of a kid; nil, if nothing stands there.
func (b *Builder) Step(n, i int) *Step { return b.steps[b.kid(n, i)] }

// orNothing is the step of a kid as a task.
func (b *Builder) orNothing(n, i int) Task {
	if s := b.Step(n, i); s != nil {
		return s
	}
	return nothing{}
}

// tasks are the steps of a node's kids.
func (b *Builder) tasks(n int) []Task {
	var l []Task
	for i := range b.nodes[n].Kids {
		l = append(l, b.Step(n, i))
	}
	return l
}

// texts are the Texts of nodes.
func (b *Builder) texts(l []int) []string {
	var texts []string
	for _, n := range l {
		texts = append(texts, b.nodes[n].Text)
	}
	return texts
}

// names are what the area that a node opens lays.
func (b *Builder) names(n int) Names {
	a := b.opened[n]
	l := Names{count: a.names}
	for _, f := range a.funcs {
		l.funcs = append(l.funcs, laidFunc{b.laid[f].slot, b.functions[f]})
	}
	return l
}

// Block is the scope and the statements of a Block or its like.
func (b *Builder) Block(n int) Block { return Block{b.names(n), b.tasks(n)} }

// function is a function: its Params are the kid behind the TypeParams, but of a Ctor the first one; its body is the last kid.
func (b *Builder) function(n int) *function {
	kids := b.nodes[n].Kids
	params, last := kids[1], kids[len(kids)-1]
	if b.nodes[n].Kind == api.Ctor {
		params = kids[0]
	}
	return &function{
		params: len(b.nodes[params].Kids),
		body:   b.steps[last],
		arrow:  b.nodes[n].Kind == api.Arrow,
		value:  b.nodes[last].Kind != api.Block,
	}
}

// single makes expressions of one value, and of members.
func (b *Builder) single(n int) Task {
	node := b.nodes[n]
	switch node.Kind {
	case api.Num:
		return &Constant{number(node.Num)}
	case api.Str:
		return &Constant{text(node.Text)}
	case api.True, api.False:
		return &Constant{truth(node.Kind == api.True)}
	case api.Null:
		return &Constant{api.Value{Kind: api.VNull}}
	case api.Undefined:
		return &Constant{}
	case api.This:
		return thisOne{}
	case api.Name:
		return &name{b.variable(n, b.used[n])}
	case api.Member:
		return &member{b.Step(n, 0), node.Text}
	case api.Index:
		return &index{b.Step(n, 0), b.Step(n, 1)}
	case api.SuperMember:
		return &superMember{node.Text}
	}
	return nil
}

// compound makes expressions of others.
func (b *Builder) compound(n int) Task {
	node := b.nodes[n]
	switch node.Kind {
	case api.Template:
		return b.template(node.Kids)
	case api.Array:
		return &array{b.tasks(n)}
	case api.Object:
		return b.object(node.Kids)
	case api.Arrow:
		return &arrow{b.functions[n]}
	case api.Unary:
		return &unary{node.Text, b.Step(n, 0)}
	case api.Binary:
		return b.binary(node.Text, b.Step(n, 0), b.Step(n, 1))
	case api.Cond:
		return &cond{b.Step(n, 0), b.Step(n, 1), b.Step(n, 2)}
	}
	return nil
}

func (b *Builder) template(kids []int) Task {
	t := &template{}
	for i, kid := range kids {
		if i%2 == 0 {
			t.pieces = append(t.pieces, b.nodes[kid].Text)
		} else {
			t.holes = append(t.holes, b.steps[kid])
		}
	}
	return t
}

func (b *Builder) object(props []int) Task {
	o := &object{keys: b.texts(props)}
	for _, p := range props {
		o.values = append(o.values, b.Step(p, 0))
	}
	return o
}

func (b *Builder) binary(op string, left, right *Step) Task {
	switch op {
	case "&&", "||":
		return &either{op == "||", left, right}
	case "in":
		return &has{left, right}
	}
	return &binary{op, left, right}
}

// asking makes what calls and assigns.
func (b *Builder) asking(n int) Task {
	switch b.nodes[n].Kind {
	case api.Assign:
		return b.assign(n)
	case api.Call:
		first := b.Step(n, 0)
		return &call{Callee(first), b.tasks(b.kid(n, 2)), Pushes(first)}
	case api.New:
		return &creation{b.Step(n, 0), b.tasks(b.kid(n, 2))}
	case api.Super:
		return &super{b.tasks(b.kid(n, 0))}
	}
	return nil
}

func (b *Builder) assign(n int) Task {
	a := &assign{op: strings.TrimSuffix(b.nodes[n].Text, "="), with: b.Step(n, 1)}
	if to, ok := b.Step(n, 0).Kind.(target); ok {
		a.to, a.kids = to, to.kids()
	}
	return a
}

// declaring makes what has a variable, and what stands alone.
func (b *Builder) declaring(n int) Task {
	switch b.nodes[n].Kind {
	case api.Var:
		return &Declaration{b.Declared(n), b.Step(n, 1)}
	case api.Class:
		return b.class(n)
	case api.Func, api.Empty:
		return Idle{}
	case api.Block:
		whole := b.Block(n)
		return &whole
	case api.Eval:
		return &eval{b.Step(n, 0)}
	}
	return nil
}

func (b *Builder) class(n int) Task {
	c := &class{Variable: b.Declared(n)}
	kids := b.nodes[n].Kids
	if base := kids[1]; b.nodes[base].Kind == api.Base {
		v := b.variable(base, b.used[base])
		c.base = &v
	}
	for _, x := range b.nodes[kids[3]].Kids {
		key := b.nodes[x].Text
		switch b.nodes[x].Kind {
		case api.Field:
			if value := b.Step(x, 1); value != nil {
				c.fields = append(c.fields, &field{key, value})
			}
		case api.Method:
			c.methods = append(c.methods, method{key, b.functions[x]})
		case api.Ctor:
			c.ctor = b.functions[x]
		}
	}
	return c
}

// statement makes statements that choose, and those that leave.
func (b *Builder) statement(n int) Task {
	switch b.nodes[n].Kind {
	case api.If:
		return &branch{b.Step(n, 0), b.Step(n, 1), b.orNothing(n, 2)}
	case api.Return:
		return &back{b.Step(n, 0)}
	case api.Break:
		return &jump{breaking}
	case api.Continue:
		return &jump{going}
	case api.Throw:
		return &throw{b.Step(n, 0)}
	case api.Try:
		t := &try{first: b.Step(n, 0), last: b.Step(n, 2)}
		if c := b.kid(n, 1); b.nodes[c].Kind == api.Catch {
			t.caught = b.Step(c, 0)
		}
		return t
	}
	return nil
}

func (b *Builder) looping(n int) Task {
	switch b.nodes[n].Kind {
	case api.While:
		return &while{cycle{test: b.Step(n, 0), body: b.Step(n, 1)}}
	case api.For:
		rounds := cycle{b.Step(n, 1), b.Step(n, 3), b.Step(n, 2)}
		return &forLoop{b.names(n), b.orNothing(n, 0), rounds}
	case api.ForOf:
		return &forOf{b.Step(n, 0), b.Step(n, 1)}
	}
	return nil
}
