package parse

import (
	"slices"
	"strconv"

	"shuck/api"
)

func (r *reader) expr() int {
	if r.arrowAhead() {
		return r.arrow()
	}
	at := r.token.At
	left := r.cond()
	if !isAssign(mark(r.token)) {
		return left
	}
	if !isTarget(r.nodes[left].Kind) {
		r.refuse()
	}
	sign := r.next().Text
	right := r.expr()
	return r.put(api.Node{Kind: api.Assign, Text: sign, At: at}, left, right)
}

func isAssign(sign string) bool {
	switch sign {
	case "=", "+=", "-=", "*=", "%=":
		return true
	}
	return false
}

// isTarget tells whether something may be assigned to a node of a kind.
func isTarget(kind int) bool {
	return kind == api.Name || kind == api.Member || kind == api.Index
}

func (r *reader) arrowAhead() bool {
	if r.token.Kind == api.TokName {
		return is(r.behind(1), "=>")
	}
	return r.is("<") || r.paramsAhead()
}

func (r *reader) arrow() int {
	at := r.token.At
	var types, params int
	if r.token.Kind == api.TokName {
		types = r.list()
		params = r.list(r.param())
	} else {
		types = r.typeParams()
		params = r.params(r.param)
	}
	r.want("=>")
	body := r.body()
	return r.put(api.Node{Kind: api.Arrow, At: at}, types, params, body)
}

func (r *reader) body() int {
	if r.is("{") {
		return r.block()
	}
	return r.expr()
}

func (r *reader) cond() int {
	at := r.token.At
	test := r.binary(0)
	if !r.take("?") {
		return test
	}
	yes := r.expr()
	r.want(":")
	no := r.expr()
	return r.put(api.Node{Kind: api.Cond, At: at}, test, yes, no)
}

// levels is the signs of Binary and As, a row a level, those that bind least first.
func levels() [][]string {
	return [][]string{
		{"||"},
		{"&&"},
		{"|"},
		{"^"},
		{"&"},
		{"===", "!=="},
		{"<", "<=", ">", ">=", "in", "as"},
		{"<<", ">>", ">>>"},
		{"+", "-"},
		{"*", "%"},
	}
}

// binary reads what binds as much as a level, or more.
func (r *reader) binary(level int) int {
	if level == len(r.levels) {
		return r.unary()
	}
	at := r.token.At
	left := r.binary(level + 1)
	for slices.Contains(r.levels[level], mark(r.token)) {
		sign := r.next().Text
		if sign == "as" {
			left = r.put(api.Node{Kind: api.As, At: at}, left, r.anyType())
			continue
		}
		right := r.binary(level + 1)
		left = r.put(api.Node{Kind: api.Binary, Text: sign, At: at}, left, right)
	}
	return left
}

func (r *reader) unary() int {
	at := r.token.At
	switch mark(r.token) {
	case "!", "-", "~", "typeof":
		sign := r.next().Text
		return r.put(api.Node{Kind: api.Unary, Text: sign, At: at}, r.unary())
	}
	return r.postfix()
}

func (r *reader) postfix() int {
	at := r.token.At
	x := r.primary()
parts:
	for {
		switch {
		case r.take("."):
			x = r.put(api.Node{Kind: api.Member, Text: r.name(), At: at}, x)
		case r.take("["):
			index := r.expr()
			r.want("]")
			x = r.put(api.Node{Kind: api.Index, At: at}, x, index)
		case r.take("!"):
			x = r.put(api.Node{Kind: api.Bang, At: at}, x)
		default:
			types, ok := r.callTypes()
			if !ok {
				break parts
			}
			x = r.put(api.Node{Kind: api.Call, At: at}, x, types, r.args())
		}
	}
	return x
}

func (r *reader) args() int { return r.list(r.enclosed("(", ")", r.expr)...) }

func (r *reader) primary() int {
	at := r.token.At
	switch r.token.Kind {
	case api.TokNumber:
		return r.put(api.Node{Kind: api.Num, Num: r.number(), At: at})
	case api.TokString:
		return r.str()
	case api.TokWhole, api.TokHead:
		return r.template()
	case api.TokName:
		return r.put(api.Node{Kind: api.Name, Text: r.name(), At: at})
	}
	switch mark(r.token) {
	case "true":
		return r.alone(api.True)
	case "false":
		return r.alone(api.False)
	case "null":
		return r.alone(api.Null)
	case "undefined":
		return r.alone(api.Undefined)
	case "this":
		return r.alone(api.This)
	case "[":
		items := r.enclosed("[", "]", r.expr)
		return r.put(api.Node{Kind: api.Array, At: at}, items...)
	case "{":
		pairs := r.braced(r.pair, ",")
		return r.put(api.Node{Kind: api.Object, At: at}, pairs...)
	case "new":
		return r.newThing()
	case "super":
		return r.super()
	}
	r.want("(")
	x := r.expr()
	r.want(")")
	return x
}

// alone takes a token that is a node by itself.
func (r *reader) alone(kind int) int { return r.put(api.Node{Kind: kind, At: r.next().At}) }

// number takes a number; what it says is within the bounds, or it would be no token.
func (r *reader) number() int {
	n, _ := strconv.Atoi(r.wantKind(api.TokNumber).Text)
	return n
}

// str takes a string or a template's piece.
func (r *reader) str() int {
	t := r.next()
	return r.put(api.Node{Kind: api.Str, Text: t.Text, At: t.At})
}

func (r *reader) template() int {
	at, holed := r.token.At, r.token.Kind == api.TokHead
	kids := []int{r.str()}
	for holed {
		kids = append(kids, r.expr())
		holed = r.token.Kind == api.TokMiddle
		if !holed && r.token.Kind != api.TokTail {
			r.refuse()
		}
		kids = append(kids, r.str())
	}
	return r.put(api.Node{Kind: api.Template, At: at}, kids...)
}

func (r *reader) pair() int {
	at := r.token.At
	name := r.name()
	var x int
	if r.take(":") {
		x = r.expr()
	} else {
		x = r.put(api.Node{Kind: api.Name, Text: name, At: at})
	}
	return r.put(api.Node{Kind: api.Prop, Text: name, At: at}, x)
}

func (r *reader) newThing() int {
	at := r.next().At
	begin := r.token.At
	class := r.put(api.Node{Kind: api.Name, Text: r.name(), At: begin})
	for r.take(".") {
		class = r.put(api.Node{Kind: api.Member, Text: r.name(), At: begin}, class)
	}
	types := r.typeArgs()
	return r.put(api.Node{Kind: api.New, At: at}, class, types, r.args())
}

func (r *reader) super() int {
	at := r.next().At
	if r.take(".") {
		return r.put(api.Node{Kind: api.SuperMember, Text: r.name(), At: at})
	}
	return r.put(api.Node{Kind: api.Super, At: at}, r.args())
}
