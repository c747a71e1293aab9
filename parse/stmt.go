package parse

import "shuck/api"

func (r *reader) program() int {
	var kids []int
	for r.token.Kind != api.TokEnd {
		kids = append(kids, r.stmt())
	}
	return r.put(api.Node{Kind: api.Program}, kids...)
}

func (r *reader) block() int {
	at := r.token.At
	kids := r.filled(r.stmt)
	return r.put(api.Node{Kind: api.Block, At: at}, kids...)
}

func (r *reader) stmt() int {
	switch mark(r.token) {
	case ";":
		return r.alone(api.Empty)
	case "{":
		return r.block()
	case "let":
		return r.variable(api.Let)
	case "const":
		if is(r.behind(1), "enum") {
			return r.enum()
		}
		return r.variable(api.Const)
	case "if":
		return r.choice()
	case "while":
		return r.while()
	case "for":
		return r.loop()
	case "return":
		at := r.next().At
		return r.put(api.Node{Kind: api.Return, At: at}, r.until(";", r.expr))
	case "break":
		return r.bare(api.Break)
	case "continue":
		return r.bare(api.Continue)
	case "throw":
		at := r.next().At
		return r.evaluated(api.Throw, at)
	case "try":
		return r.try()
	}
	if r.declares() {
		return r.declaration()
	}
	return r.evaluated(api.Eval, r.token.At)
}

// bare reads a word that is a statement with `;` behind it.
func (r *reader) bare(kind int) int {
	x := r.alone(kind)
	r.want(";")
	return x
}

// evaluated reads a statement from its one Expr on.
func (r *reader) evaluated(kind, at int) int {
	x := r.expr()
	r.want(";")
	return r.put(api.Node{Kind: kind, At: at}, x)
}

// variable reads a Var from its word to its `;`.
func (r *reader) variable(num int) int {
	at := r.next().At
	name := r.name()
	typ := r.maybe(":", r.anyType)
	r.want("=")
	value := r.expr()
	r.want(";")
	return r.put(api.Node{Kind: api.Var, Text: name, Num: num, At: at}, typ, value)
}

// inParens reads an Expr between `(` and `)`.
func (r *reader) inParens() int {
	r.want("(")
	x := r.expr()
	r.want(")")
	return x
}

func (r *reader) choice() int {
	at := r.token.At
	r.want("if")
	test := r.inParens()
	yes := r.block()
	no := r.maybe("else", r.otherwise)
	return r.put(api.Node{Kind: api.If, At: at}, test, yes, no)
}

func (r *reader) otherwise() int {
	if r.is("if") {
		return r.choice()
	}
	return r.block()
}

func (r *reader) while() int {
	at := r.next().At
	test := r.inParens()
	return r.put(api.Node{Kind: api.While, At: at}, test, r.block())
}

func (r *reader) loop() int {
	at := r.next().At
	r.want("(")
	if r.ofAhead() {
		return r.forOf(at)
	}
	var begin int
	if r.is("let") {
		begin = r.variable(api.Let)
	} else {
		begin = r.none()
		r.want(";")
	}
	test := r.until(";", r.expr)
	step := r.until(")", r.expr)
	return r.put(api.Node{Kind: api.For, At: at}, begin, test, step, r.block())
}

func (r *reader) ofAhead() bool {
	return (r.is("let") || r.is("const")) && r.behind(1).Kind == api.TokName && is(r.behind(2), "of")
}

// forOf reads a ForOf from behind its `(` on.
func (r *reader) forOf(at int) int {
	num := api.Let
	if r.is("const") {
		num = api.Const
	}
	r.next()
	name := r.name()
	r.want("of")
	items := r.expr()
	r.want(")")
	return r.put(api.Node{Kind: api.ForOf, Text: name, Num: num, At: at}, items, r.block())
}

func (r *reader) try() int {
	at := r.next().At
	body := r.block()
	if !r.is("catch") && !r.is("finally") {
		r.refuse()
	}
	caught := r.caught()
	last := r.maybe("finally", r.block)
	return r.put(api.Node{Kind: api.Try, At: at}, body, caught, last)
}

// caught reads a Catch; None, if there is none.
func (r *reader) caught() int {
	at := r.token.At
	if !r.take("catch") {
		return r.none()
	}
	r.want("(")
	name := r.name()
	r.want(")")
	return r.put(api.Node{Kind: api.Catch, Text: name, At: at}, r.block())
}
