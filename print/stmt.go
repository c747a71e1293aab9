package print

import "shuck/api"

// statements puts statements or a class's members, a line each.
func (p *printer) statements(kids []int) {
	for _, kid := range kids {
		p.indent()
		p.statement(kid)
		p.put("\n")
	}
}

func (p *printer) indent() { p.putBlanks(2 * p.depth) }

// braces puts `{`, statements one deeper, and `}`.
func (p *printer) braces(kids []int) {
	if len(kids) == 0 {
		p.put("{}")
		return
	}
	p.put("{\n")
	p.depth++
	p.statements(kids)
	p.depth--
	p.indent()
	p.put("}")
}

func (p *printer) block(n int) { p.braces(p.nodes[n].Kids) }

func (p *printer) statement(n int) {
	x := p.nodes[n]
	switch x.Kind {
	case api.Var:
		p.variable(x)
		p.put(";")
	case api.Func:
		p.put("function ")
		p.name(n)
		p.function(x.Kids[1], x.Kids[3])
	case api.Class:
		p.class(x)
	case api.Field:
		p.name(n)
		p.put(" = ")
		p.item(x.Kids[1])
		p.put(";")
	case api.Method:
		p.name(n)
		p.function(x.Kids[1], x.Kids[3])
	case api.Ctor:
		p.put("constructor")
		p.function(x.Kids[0], x.Kids[1])
	case api.Eval:
		p.expr(x.Kids[0], anyLevel, true)
		p.put(";")
	case api.Return:
		p.put("return")
		p.maybe(" ", x.Kids[0])
		p.put(";")
	case api.Throw:
		p.put("throw ")
		p.item(x.Kids[0])
		p.put(";")
	case api.Break:
		p.put("break;")
	case api.Continue:
		p.put("continue;")
	case api.Empty:
		p.put(";")
	case api.Block:
		p.block(n)
	default:
		p.compound(x)
	}
}

// compound puts a statement that has a head and Blocks.
func (p *printer) compound(x api.Node) {
	switch x.Kind {
	case api.If:
		p.choice(x.Kids)
	case api.While:
		p.put("while (")
		p.item(x.Kids[0])
		p.put(") ")
		p.block(x.Kids[1])
	case api.For:
		p.loop(x.Kids)
	case api.ForOf:
		p.put("for (" + keyword(x) + " ")
		p.putName(x.Text)
		p.put(" of ")
		p.item(x.Kids[0])
		p.put(") ")
		p.block(x.Kids[1])
	case api.Try:
		p.attempt(x.Kids)
	}
}

// maybe puts a text and an expression, if there is one.
func (p *printer) maybe(ahead string, n int) {
	if !p.isNone(n) {
		p.put(ahead)
		p.item(n)
	}
}

// keyword is the word by which a name is declared.
func keyword(x api.Node) string {
	if x.Num == api.Const {
		return "const"
	}
	return "let"
}

func (p *printer) variable(x api.Node) {
	p.put(keyword(x) + " ")
	p.putName(x.Text)
	p.put(" = ")
	p.item(x.Kids[1])
}

// function puts what stands behind a function's name.
func (p *printer) function(params, body int) {
	p.params(params)
	p.put(" ")
	p.block(body)
}

func (p *printer) class(x api.Node) {
	p.put("class ")
	p.putName(x.Text)
	p.put(" ")
	if base := x.Kids[1]; !p.isNone(base) {
		p.put("extends ")
		p.name(base)
		p.put(" ")
	}
	p.braces(p.nodes[x.Kids[3]].Kids)
}

func (p *printer) choice(kids []int) {
	p.put("if (")
	p.item(kids[0])
	p.put(") ")
	p.block(kids[1])
	if !p.isNone(kids[2]) {
		p.put(" else ")
		p.statement(kids[2])
	}
}

func (p *printer) loop(kids []int) {
	p.put("for (")
	if !p.isNone(kids[0]) {
		p.variable(p.nodes[kids[0]])
	}
	p.put("; ")
	p.maybe("", kids[1])
	p.put("; ")
	p.maybe("", kids[2])
	p.put(") ")
	p.block(kids[3])
}

func (p *printer) attempt(kids []int) {
	p.put("try ")
	p.block(kids[0])
	if catch := kids[1]; !p.isNone(catch) {
		p.put(" catch (")
		p.name(catch)
		p.put(") ")
		p.block(p.nodes[catch].Kids[0])
	}
	if !p.isNone(kids[2]) {
		p.put(" finally ")
		p.block(kids[2])
	}
}
