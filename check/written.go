package check

import (
	"slices"

	"shuck/api"
)

// lookups are the functions by which types, and what they lean on, are looked up.
type lookups struct {
	regions   map[int]region // of each TypeName
	ring      map[int]int    // of each Alias and each Interface
	standsFor func(n int) int
	exports   func(n int) exported
	cases     func(n int) map[string]int
	written   func(n int) int
	param     func(n int) int
	function  func(n int) int
	asValue   func(n int) int
	base      func(n int) parent
	shape     func(n int) *shape
	ctor      func(n int) signature
}

func (c *checker) newLookups() lookups {
	return lookups{
		regions:   map[int]region{},
		standsFor: once(c.declarationOf),
		exports:   once(c.exportsOf),
		cases:     once(c.casesOf),
		written:   once(c.typeOf),
		param:     once(c.paramType),
		function:  once(c.functionType),
		asValue:   once(c.valueType),
		base:      once(c.baseOf),
		shape:     once(c.shapeOf),
		ctor:      once(c.ctorOf),
	}
}

// once makes a function that works out what it answers of a node when that is first asked, and keeps it. So what is asked for meanwhile, one within another, is made once.
func once[T any](work func(n int) T) func(n int) T {
	kept := map[int]T{}
	return func(n int) T {
		if x, ok := kept[n]; ok {
			return x
		}
		x := work(n)
		kept[n] = x
		return x
	}
}

// writeAll makes each type that is written, each Param's and each function's, whoever asks for it.
func (c *checker) writeAll() {
	for n, node := range c.nodes {
		switch {
		case isType(node.Kind):
			c.written(n)
		case node.Kind == api.Param:
			c.param(n)
		case node.Kind == api.Func || node.Kind == api.Method:
			c.function(n)
		}
	}
}

// typeOf is the type that is written at a node.
func (c *checker) typeOf(n int) int {
	node := c.nodes[n]
	switch node.Kind {
	case api.TypeNum:
		return c.find(api.Type{Kind: api.KNumIs, Num: node.Num})
	case api.TypeStr:
		return c.find(api.Type{Kind: api.KStrIs, Text: node.Text})
	case api.TypeArray:
		return c.arrayOf(c.written(node.Kids[0]))
	case api.TypeUnion:
		return c.union(c.eachWritten(n)...)
	case api.TypeFunc:
		return c.funcType(node.Kids[0], c.written(node.Kids[1]))
	case api.TypeObject:
		return c.objectType(n)
	}
	return c.namedType(n)
}

// eachWritten is the types that are a node's kids.
func (c *checker) eachWritten(n int) []int {
	kids := c.nodes[n].Kids
	ids := make([]int, len(kids))
	for i, kid := range kids {
		ids[i] = c.written(kid)
	}
	return ids
}

// orAny is the type that is written in a place; any, if it is empty.
func (c *checker) orAny(n int) int {
	if c.isNone(n) {
		return anyType
	}
	return c.written(n)
}

// namedType is the type that a TypeName stands for.
func (c *checker) namedType(n int) int {
	list := c.eachWritten(c.kid(n, 0))
	if id, ok := c.itself(c.nodes[n].Text); ok && len(list) == 0 {
		return id
	}
	decl := c.standsFor(n)
	if decl == nowhere || len(list) != len(c.parameters(decl)) || c.kind(decl) == api.Alias && c.isRound(n) {
		c.offend(n)
		return anyType
	}
	switch c.kind(decl) {
	case api.Alias:
		return c.subst(c.written(c.kid(decl, 1)), c.parameters(decl), list)
	case api.Class, api.Interface:
		return c.bear(api.KRef, decl, list...)
	case api.Enum:
		return c.bear(api.KEnum, decl)
	case api.EnumMember:
		return c.caseType(decl)
	}
	return c.bear(api.KVar, decl)
}

// bear is a type that bears a declaration's number and name.
func (c *checker) bear(kind, decl int, parts ...int) int {
	return c.find(api.Type{Kind: kind, Num: decl, Text: c.nodes[decl].Text, Parts: parts})
}

// caseType is the type of an Enum's member.
func (c *checker) caseType(member int) int {
	return c.bear(api.KCase, member, c.bear(api.KEnum, c.parents[member]))
}

// variables is the types of parameters within what has them.
func (c *checker) variables(parameters []int) []int {
	ids := make([]int, len(parameters))
	for i, p := range parameters {
		ids[i] = c.bear(api.KVar, p)
	}
	return ids
}

// own is the type of a Class, or of an Interface, with its own parameters.
func (c *checker) own(decl int) int {
	return c.bear(api.KRef, decl, c.variables(c.parameters(decl))...)
}

// paramType is the type of a Param.
func (c *checker) paramType(n int) int {
	id := c.orAny(c.kid(n, 0))
	if c.nodes[n].Num&api.Optional != 0 {
		return c.union(id, undefinedType)
	}
	return id
}

// params is the types of a List of Params, and which of them may lack.
func (c *checker) params(list int) ([]int, []bool) {
	kids := c.nodes[list].Kids
	ids, marks := make([]int, len(kids)), make([]bool, len(kids))
	mark := false
	for i, n := range kids {
		mark = mark || c.nodes[n].Num&api.Optional != 0
		ids[i], marks[i] = c.param(n), mark
	}
	return ids, marks
}

// funcType is the type of functions with a List of Params and an answer.
func (c *checker) funcType(list, answer int) int {
	ids, marks := c.params(list)
	return c.find(api.Type{Kind: api.KFunc, Parts: append(ids, answer), Marks: marks})
}

// functionType is the type of a Func or a Method, with its parameters in it.
func (c *checker) functionType(n int) int {
	return c.funcType(c.kid(n, 1), c.orAny(c.kid(n, 2)))
}

// valueType is the type of a Func as a value: with any in the place of its parameters.
func (c *checker) valueType(n int) int { return c.opened(c.function(n), c.parameters(n)) }

// opened is a type with any in the place of parameters.
func (c *checker) opened(id int, parameters []int) int {
	return c.subst(id, parameters, slices.Repeat([]int{anyType}, len(parameters)))
}

// objectType is the type of a TypeObject.
func (c *checker) objectType(n int) int {
	var l []api.Piece
	for _, prop := range c.ownProps(n) {
		node := c.nodes[prop]
		l = append(l, api.Piece{Name: node.Text, Type: c.written(node.Kids[0]), Mark: node.Num == api.Optional})
	}
	return c.objectOf(l)
}

// ownProps is the kids of a TypeObject, or of an Object, that count: of two of one name the second one offends.
func (c *checker) ownProps(n int) []int {
	names := map[string]struct{}{}
	var l []int
	for _, kid := range c.nodes[n].Kids {
		name := c.nodes[kid].Text
		if _, twice := names[name]; twice {
			c.offend(kid)
			continue
		}
		names[name] = struct{}{}
		l = append(l, kid)
	}
	return l
}
