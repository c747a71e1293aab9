package check

import "shuck/api"

func (c *checker) ofMember(n int) int {
	return c.ofParts(n, c.expr(c.kid(n, 0)), func(part int) (int, bool) { return c.memberOf(n, part) })
}

func (c *checker) ofIndex(n int) int {
	first, second := c.kid(n, 0), c.kid(n, 1)
	id, by := c.expr(first), c.expr(second)
	if id != anyType {
		c.need(numberType, second, by)
	}
	return c.ofParts(n, id, c.element)
}

// ofParts is what all parts of a type give together; the node offends, if one gives nothing.
func (c *checker) ofParts(n, id int, gives func(part int) (int, bool)) int {
	var ids []int
	for _, part := range c.parts(id) {
		given, ok := gives(part)
		if !ok {
			c.offend(n)
			given = anyType
		}
		ids = append(ids, given)
	}
	return c.union(ids...)
}

// memberOf is what a part of a type has by the name of a Member; any and not, if it has none of that name.
func (c *checker) memberOf(n, part int) (int, bool) {
	name := c.nodes[n].Text
	t := c.at(part)
	switch t.Kind {
	case api.KAny:
		return anyType, true
	case api.KString, api.KStrIs:
		return numberType, name == "length"
	case api.KArray:
		return c.ofArrayMember(t.Parts[0], name)
	case api.KCases:
		if member := numbered(c.cases(t.Num), name); member != nowhere {
			return c.caseType(member), true
		}
	case api.KSpace:
		if decl := numbered(c.exports(t.Num).values, name); decl != nowhere {
			return c.declared(n, decl), true
		}
	}
	return c.pieceOf(part, name)
}

func (c *checker) ofArrayMember(part int, name string) (int, bool) {
	switch name {
	case "length":
		return numberType, true
	case "push":
		return c.find(api.Type{Kind: api.KFunc, Parts: []int{part, numberType}, Marks: []bool{false}}), true
	}
	return anyType, false
}

// pieceOf is the type of the piece of a name; with undefined, if it may lack.
func (c *checker) pieceOf(id int, name string) (int, bool) {
	l, _ := c.piecesOf(id)
	p, ok := named(l, name)
	if !ok {
		return anyType, false
	}
	if p.Mark {
		return c.union(p.Type, undefinedType), true
	}
	return p.Type, true
}

func (c *checker) ofSuperMember(n int) int {
	base, name := c.base(c.place.class), c.nodes[n].Text
	if base.decl != nowhere {
		if m, ok := c.shape(base.decl).named(name); ok && c.kind(m.decl) == api.Method {
			id, _ := c.pieceOf(base.whole, name)
			return id
		}
	}
	c.offend(n)
	return anyType
}

func (c *checker) ofAssign(n int) int {
	node := c.nodes[n]
	left, right := node.Kids[0], node.Kids[1]
	x, y := c.expr(left), c.expr(right)
	asked := x
	switch c.kind(left) {
	case api.Name:
		asked = c.declared(left, c.uses[left])
	case api.Member:
		c.needOpen(left)
	}
	if node.Text == "=" {
		c.need(asked, right, y)
	} else {
		y = c.operated(operation{n, node.Text[:1], left, right, x, y})
		c.need(asked, n, y)
	}
	if c.kind(left) == api.Name {
		c.facts[c.uses[left]] = c.assign(asked, y)
	}
	return y
}

// needOpen has a Member offend that is assigned to and is readonly.
func (c *checker) needOpen(n int) {
	kid := c.kid(n, 0)
	for _, part := range c.parts(c.types[kid] - 1) {
		t := c.at(part)
		if t.Kind != api.KRef {
			continue
		}
		m, ok := c.shape(t.Num).named(c.nodes[n].Text)
		if ok && c.isReadonly(m.decl) && !(c.kind(kid) == api.This && c.isMaking(m.decl)) {
			c.offend(n)
		}
	}
}

// isReadonly tells whether a member is a Field or a Param that is readonly.
func (c *checker) isReadonly(decl int) bool {
	return c.isOf(decl, api.Field, api.Param) && c.nodes[decl].Num&api.Readonly != 0
}

// isMaking tells whether the present place is in the Ctor of the very Class that declares a Field or a Param.
func (c *checker) isMaking(decl int) bool {
	owner := c.place.owner
	if c.kind(decl) == api.Param {
		return c.parents[c.parents[decl]] == owner
	}
	return c.isOf(owner, api.Ctor) && c.classOf(decl) == c.classOf(owner)
}
