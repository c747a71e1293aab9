package print

import (
	"strconv"
	"strings"

	"shuck/api"
	"shuck/text"
)

// expr puts an expression in a place that asks for a level; leads tells whether its first character is that of an Eval or of an Arrow's body.
func (p *printer) expr(n, asks int, leads bool) {
	x := p.nodes[n]
	if Level(x) >= asks && !p.third[n] && !(leads && x.Kind == api.Object) {
		p.bare(n, leads)
		return
	}
	p.put("(")
	p.bare(n, false)
	p.put(")")
}

// bare puts an expression without parentheses about it.
func (p *printer) bare(n int, leads bool) {
	x := p.nodes[n]
	switch x.Kind {
	case api.Num:
		p.put(strconv.Itoa(x.Num))
	case api.Str:
		p.putString(x.Text)
	case api.Template:
		p.template(x.Kids)
	case api.Name:
		p.name(n)
	case api.Array:
		p.put("[")
		p.row(x.Kids, p.item)
		p.put("]")
	case api.Object:
		p.put("{")
		p.row(x.Kids, p.prop)
		p.put("}")
	case api.Arrow:
		p.arrow(x.Kids)
	case api.Unary:
		p.unary(x)
	case api.Binary:
		p.binary(n, leads)
	case api.Cond:
		p.expr(x.Kids[0], binaryLevel, leads)
		p.put(" ? ")
		p.item(x.Kids[1])
		p.put(" : ")
		p.item(x.Kids[2])
	case api.Assign:
		p.expr(x.Kids[0], tightLevel, leads)
		p.put(" " + x.Text + " ")
		p.item(x.Kids[1])
	case api.New:
		p.put("new ")
		p.called(x.Kids, false)
	case api.Call:
		p.called(x.Kids, leads)
	default:
		p.postfix(x, leads)
	}
}

// postfix puts what has a member's name or brackets behind it, and words alone.
func (p *printer) postfix(x api.Node, leads bool) {
	switch x.Kind {
	case api.Member:
		p.expr(x.Kids[0], tightLevel, leads)
		p.put(".")
		p.putName(x.Text)
	case api.Index:
		p.expr(x.Kids[0], tightLevel, leads)
		p.put("[")
		p.item(x.Kids[1])
		p.put("]")
	case api.Super:
		p.put("super")
		p.args(x.Kids[0])
	case api.SuperMember:
		p.put("super.")
		p.putName(x.Text)
	case api.True:
		p.put("true")
	case api.False:
		p.put("false")
	case api.Null:
		p.put("null")
	case api.Undefined:
		p.put("undefined")
	case api.This:
		p.put("this")
	}
}

func (p *printer) template(kids []int) {
	ahead, begin := "", "`"
	for i, kid := range kids {
		if i%2 != 0 {
			p.item(kid)
			// Without a hole that is open a `}` would be a sign.
			ahead, begin = "`${", "}"
			continue
		}
		end := "${"
		if i == len(kids)-1 {
			end = "`"
		}
		p.lay(begin+templatePiece(p.nodes[kid].Text)+end, begin+end, ahead)
	}
}

// templatePiece is what stands in a template for a text.
func templatePiece(s string) string {
	quoted := text.Quote(s)
	return strings.NewReplacer(`\"`, `"`, "`", "\\`", "$", `\$`).Replace(quoted[1 : len(quoted)-1])
}

func (p *printer) prop(n int) {
	p.name(n)
	p.put(": ")
	p.item(p.nodes[n].Kids[0])
}

func (p *printer) arrow(kids []int) {
	p.params(kids[1])
	p.put(" => ")
	if body := kids[2]; p.nodes[body].Kind == api.Block {
		p.block(body)
	} else {
		p.expr(body, anyLevel, true)
	}
}

func (p *printer) unary(x api.Node) {
	p.put(x.Text)
	if x.Text == "typeof" {
		p.put(" ")
	}
	p.expr(x.Kids[0], unaryLevel, false)
}

func (p *printer) binary(n int, leads bool) {
	x := p.nodes[n]
	level := Level(x)
	p.expr(x.Kids[0], level, leads)
	p.put(" " + x.Text + " ")
	if x.Text == "<" {
		p.less = append(p.less, n)
	}
	p.expr(x.Kids[1], level+1, false)
}

// called puts what a Call or a New calls, and with what.
func (p *printer) called(kids []int, leads bool) {
	p.expr(kids[0], tightLevel, leads)
	p.args(kids[2])
}

func (p *printer) args(list int) {
	p.put("(")
	p.row(p.nodes[list].Kids, p.item)
	p.put(")")
}

func (p *printer) params(list int) {
	p.put("(")
	p.row(p.nodes[list].Kids, p.name)
	p.put(")")
}
