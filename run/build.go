package run

import (
	"cmp"
	"strings"

	"shuck/api"
)

// builder makes of the nodes of a program what the machine does, from the last one to the first: so kids are there ahead of what they stand beneath.
type builder struct {
	*plan
	used      []place     // of each use, where the variable lies for which it stands
	steps     []*step     // of each expression and statement
	functions []*function // of each Func, Method, Ctor and Arrow
}

// built is a program as a task.
func built(nodes []api.Node, uses []api.Use) task {
	b := &builder{
		plan:      planned(nodes),
		used:      make([]place, len(nodes)),
		steps:     make([]*step, len(nodes)),
		functions: make([]*function, len(nodes)),
	}
	for _, u := range uses {
		b.used[u.At] = b.declared(u)
	}
	for n := len(nodes) - 1; n > 0; n-- {
		b.build(n)
	}
	whole := b.body(0)
	return &whole
}

func (b *builder) declared(u api.Use) place {
	switch {
	case u.Decl >= 0:
		return b.laid[u.Decl]
	case b.nodes[u.At].Text == "print":
		return place{b.within[0], printAt}
	}
	return place{b.within[0], inputAt}
}

// variable is a name, by the node that has it and the place for which it stands.
func (b *builder) variable(n int, p place) variable {
	return variable{b.nodes[n].Text, p.area.depth, p.slot}
}

// build makes the step or the function of a node, if it is one.
func (b *builder) build(n int) {
	switch b.nodes[n].Kind {
	case api.Arrow, api.Func, api.Method, api.Ctor:
		b.functions[n] = b.function(n)
	}
	if kind := b.kind(n); kind != nil {
		b.steps[n] = &step{kind}
	}
}

// kind is what is done when a node is begun; nil, if it is neither an expression nor a statement.
func (b *builder) kind(n int) task {
	return cmp.Or(b.single(n), b.compound(n), b.asking(n), b.declaring(n), b.statement(n), b.looping(n))
}

func (b *builder) kid(n, i int) int { return b.nodes[n].Kids[i] }

// step is the step of a kid; nil, if nothing stands there.
func (b *builder) step(n, i int) *step { return b.steps[b.kid(n, i)] }

// orNothing is the step of a kid as a task.
func (b *builder) orNothing(n, i int) task {
	if s := b.step(n, i); s != nil {
		return s
	}
	return nothing{}
}

// tasks are the steps of a node's kids.
func (b *builder) tasks(n int) []task {
	var l []task
	for i := range b.nodes[n].Kids {
		l = append(l, b.step(n, i))
	}
	return l
}

// texts are the Texts of nodes.
func (b *builder) texts(l []int) []string {
	var texts []string
	for _, n := range l {
		texts = append(texts, b.nodes[n].Text)
	}
	return texts
}

// names are what the area that a node opens lays.
func (b *builder) names(n int) names {
	a := b.opened[n]
	l := names{count: a.names}
	for _, f := range a.funcs {
		l.funcs = append(l.funcs, laidFunc{b.laid[f].slot, b.functions[f]})
	}
	return l
}

func (b *builder) body(n int) body { return body{b.names(n), b.tasks(n)} }

// function is a function: its Params are the kid behind the TypeParams, but of a Ctor the first one; its body is the last kid.
func (b *builder) function(n int) *function {
	kids := b.nodes[n].Kids
	params, last := kids[1], kids[len(kids)-1]
	if b.nodes[n].Kind == api.Ctor {
		params = kids[0]
	}
	return &function{
		params: len(b.nodes[params].Kids),
		body:   b.steps[last],
		arrow:  b.nodes[n].Kind == api.Arrow,
		value:  b.nodes[last].Kind != api.Block,
	}
}

// single makes expressions of one value, and of members.
func (b *builder) single(n int) task {
	node := b.nodes[n]
	switch node.Kind {
	case api.Num:
		return &constant{number(node.Num)}
	case api.Str:
		return &constant{text(node.Text)}
	case api.True, api.False:
		return &constant{truth(node.Kind == api.True)}
	case api.Null:
		return &constant{api.Value{Kind: api.VNull}}
	case api.Undefined:
		return &constant{}
	case api.This:
		return thisOne{}
	case api.Name:
		return &name{b.variable(n, b.used[n])}
	case api.Member:
		return &member{b.step(n, 0), node.Text}
	case api.Index:
		return &index{b.step(n, 0), b.step(n, 1)}
	case api.SuperMember:
		return &superMember{node.Text}
	}
	return nil
}

// compound makes expressions of others.
func (b *builder) compound(n int) task {
	node := b.nodes[n]
	switch node.Kind {
	case api.Template:
		return b.template(node.Kids)
	case api.Array:
		return &array{b.tasks(n)}
	case api.Object:
		return b.object(node.Kids)
	case api.Arrow:
		return &arrow{b.functions[n]}
	case api.Unary:
		return &unary{node.Text, b.step(n, 0)}
	case api.Binary:
		return b.binary(node.Text, b.step(n, 0), b.step(n, 1))
	case api.Cond:
		return &cond{b.step(n, 0), b.step(n, 1), b.step(n, 2)}
	}
	return nil
}

func (b *builder) template(kids []int) task {
	t := &template{}
	for i, kid := range kids {
		if i%2 == 0 {
			t.pieces = append(t.pieces, b.nodes[kid].Text)
		} else {
			t.holes = append(t.holes, b.steps[kid])
		}
	}
	return t
}

func (b *builder) object(props []int) task {
	o := &object{keys: b.texts(props)}
	for _, p := range props {
		o.values = append(o.values, b.step(p, 0))
	}
	return o
}

func (b *builder) binary(op string, left, right *step) task {
	switch op {
	case "&&", "||":
		return &either{op == "||", left, right}
	case "in":
		return &has{left, right}
	}
	return &binary{op, left, right}
}

// asking makes what calls and assigns.
func (b *builder) asking(n int) task {
	switch b.nodes[n].Kind {
	case api.Assign:
		return b.assign(n)
	case api.Call:
		first := b.nodes[b.kid(n, 0)]
		push := first.Kind == api.Member && first.Text == "push"
		return &call{callee(b.step(n, 0)), b.tasks(b.kid(n, 2)), push}
	case api.New:
		return &creation{b.step(n, 0), b.tasks(b.kid(n, 2))}
	case api.Super:
		return &super{b.tasks(b.kid(n, 0))}
	}
	return nil
}

func (b *builder) assign(n int) task {
	a := &assign{op: strings.TrimSuffix(b.nodes[n].Text, "="), with: b.step(n, 1)}
	if to, ok := b.step(n, 0).kind.(target); ok {
		a.to, a.kids = to, to.kids()
	}
	return a
}

// declaring makes what has a variable, and what stands alone.
func (b *builder) declaring(n int) task {
	switch b.nodes[n].Kind {
	case api.Var:
		return &declaration{b.variable(n, b.laid[n]), b.step(n, 1)}
	case api.Class:
		return b.class(n)
	case api.Func, api.Empty:
		return idle{}
	case api.Block:
		return &block{b.body(n)}
	case api.Eval:
		return &eval{b.step(n, 0)}
	}
	return nil
}

func (b *builder) class(n int) task {
	c := &class{variable: b.variable(n, b.laid[n])}
	kids := b.nodes[n].Kids
	if base := kids[1]; b.nodes[base].Kind == api.Base {
		v := b.variable(base, b.used[base])
		c.base = &v
	}
	for _, x := range b.nodes[kids[3]].Kids {
		key := b.nodes[x].Text
		switch b.nodes[x].Kind {
		case api.Field:
			c.fields = append(c.fields, &field{key, b.step(x, 1)})
		case api.Method:
			c.methods = append(c.methods, method{key, b.functions[x]})
		case api.Ctor:
			c.ctor = b.functions[x]
		}
	}
	return c
}

// statement makes statements that choose, and those that leave.
func (b *builder) statement(n int) task {
	switch b.nodes[n].Kind {
	case api.If:
		return &branch{b.step(n, 0), b.step(n, 1), b.orNothing(n, 2)}
	case api.Return:
		return &back{b.step(n, 0)}
	case api.Break:
		return &jump{breaking}
	case api.Continue:
		return &jump{going}
	case api.Throw:
		return &throw{b.step(n, 0)}
	case api.Try:
		t := &try{first: b.step(n, 0), last: b.step(n, 2)}
		if c := b.kid(n, 1); b.nodes[c].Kind == api.Catch {
			t.caught = b.step(c, 0)
		}
		return t
	}
	return nil
}

func (b *builder) looping(n int) task {
	switch b.nodes[n].Kind {
	case api.While:
		return &while{cycle{test: b.step(n, 0), body: b.step(n, 1)}}
	case api.For:
		rounds := cycle{b.step(n, 1), b.step(n, 3), b.step(n, 2)}
		return &forLoop{b.names(n), b.orNothing(n, 0), rounds}
	case api.ForOf:
		return &forOf{b.step(n, 0), b.step(n, 1)}
	}
	return nil
}
