package check

import (
	"slices"

	"shuck/api"
)

func (c *checker) ofNum(n int) int {
	return c.find(api.Type{Kind: api.KNumIs, Num: c.nodes[n].Num})
}

func (c *checker) ofStr(n int) int {
	return c.find(api.Type{Kind: api.KStrIs, Text: c.nodes[n].Text})
}

func (c *checker) ofTemplate(n int) int {
	c.each(n)
	return stringType
}

func (c *checker) ofTrue(int) int      { return trueType }
func (c *checker) ofFalse(int) int     { return falseType }
func (c *checker) ofNull(int) int      { return nullType }
func (c *checker) ofUndefined(int) int { return undefinedType }

func (c *checker) ofThis(int) int { return c.own(c.place.class) }

func (c *checker) ofName(n int) int {
	decl := c.uses[n]
	if c.isOf(decl, api.Enum) && c.nodes[decl].Num == api.Const && c.kind(c.parents[n]) != api.Member {
		c.offend(n)
	}
	if id, ok := c.facts[decl]; ok {
		return id
	}
	return c.declared(n, decl)
}

// declared is the type of what a Name, or an exported name of a Namespace, stands for, as far as its declaration says it at the number n.
func (c *checker) declared(n, decl int) int {
	if decl == nowhere {
		return c.ofSurroundings(c.nodes[n].Text)
	}
	switch c.kind(decl) {
	case api.Var:
		return c.varType(n, decl)
	case api.Func:
		return c.asValue(decl)
	case api.Class:
		return c.bear(api.KClass, decl)
	case api.Enum:
		return c.bear(api.KCases, decl)
	case api.Namespace:
		return c.bear(api.KSpace, decl)
	case api.Param:
		return c.param(decl)
	case api.ForOf:
		return c.given[decl]
	}
	return unknownType // a Catch
}

// ofSurroundings is the type of print or of input.
func (c *checker) ofSurroundings(name string) int {
	answer := undefinedType
	if name == "input" {
		answer = c.inputType()
	}
	return c.find(api.Type{Kind: api.KFunc, Parts: []int{answer}})
}

func (c *checker) inputType() int { return c.union(nullType, stringType) }

// varType is the type of a Var at the number n.
func (c *checker) varType(n, decl int) int {
	node := c.nodes[decl]
	switch {
	case !c.isNone(node.Kids[0]):
		return c.written(node.Kids[0])
	case n < c.ends[decl]:
		return anyType
	}
	id := c.given[decl]
	if kind := c.at(id).Kind; node.Num == api.Let || kind == api.KArray || kind == api.KObject {
		return c.widen(id)
	}
	return id
}

func (c *checker) ofArray(n int) int {
	ids := c.each(n)
	for i, id := range ids {
		ids[i] = c.widen(id)
	}
	return c.arrayOf(c.union(ids...))
}

func (c *checker) ofObject(n int) int {
	for _, prop := range c.nodes[n].Kids {
		c.expr(c.kid(prop, 0))
	}
	var l []api.Piece
	for _, prop := range c.ownProps(n) {
		l = append(l, api.Piece{Name: c.nodes[prop].Text, Type: c.types[c.kid(prop, 0)] - 1})
	}
	return c.objectOf(l)
}

func (c *checker) ofArrow(n int) int {
	return c.opened(c.funcType(c.kid(n, 1), c.arrowAnswer(n)), c.parameters(n))
}

// arrowAnswer is the type of what an Arrow answers.
func (c *checker) arrowAnswer(n int) int {
	body := c.kid(n, 2)
	r := &returned{}
	p := place{class: c.place.class, owner: c.place.owner, answer: nowhere, returned: r}
	if c.kind(body) != api.Block {
		id := anyType
		c.inFunction(p, func() { id = c.expr(body) })
		return c.widen(id)
	}
	end := c.inFunction(p, func() { c.inOrder(body) })
	if !r.hasValue {
		return voidType
	}
	ids := make([]int, len(r.types))
	for i, id := range r.types {
		ids[i] = c.widen(id)
	}
	if end {
		ids = append(ids, undefinedType)
	}
	return c.union(ids...)
}

func (c *checker) ofUnary(n int) int {
	kid := c.kid(n, 0)
	id := c.expr(kid)
	switch c.nodes[n].Text {
	case "!":
		return c.boolean()
	case "typeof":
		return stringType
	}
	c.need(numberType, kid, id)
	if t := c.at(id); t.Kind == api.KNumIs && c.nodes[n].Text == "-" {
		return c.find(api.Type{Kind: api.KNumIs, Num: -t.Num})
	}
	return numberType
}

func (c *checker) ofCond(n int) int {
	condition := c.kid(n, 0)
	c.expr(condition)
	asked := c.state
	c.state = c.where(condition, true, asked)
	yes := c.expr(c.kid(n, 1))
	behind := c.state
	c.state = c.where(condition, false, asked)
	no := c.expr(c.kid(n, 2))
	c.state = c.joined(behind, c.state)
	return c.union(yes, no)
}

func (c *checker) ofAs(n int) int {
	id, written := c.expr(c.kid(n, 0)), c.written(c.kid(n, 1))
	up, down := c.takes(written, id), c.takes(id, written)
	if !up && !down {
		c.offend(n)
	}
	return written
}

func (c *checker) ofBang(n int) int {
	id := c.expr(c.kid(n, 0))
	for _, nothing := range []int{undefinedType, nullType} {
		id = c.keep(id, api.Test{Kind: api.TestIs, Type: nothing}, false)
	}
	return c.union(slices.DeleteFunc(c.parts(id), func(part int) bool { return part == voidType })...)
}
