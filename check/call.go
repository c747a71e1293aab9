package check

import (
	"slices"

	"shuck/api"
)

// signature is what a call asks of a function.
type signature struct {
	vars   []int // its parameters for types
	params []int
	marks  []bool
	answer int
}

// call is a node that calls, with the types in its List and its arguments.
type call struct {
	n     int
	types []int
	args  []int // nodes
	given []int // their types
}

func (c *checker) ofCall(n int) int {
	first := c.kid(n, 0)
	id := c.expr(first)
	k := c.newCall(n, c.eachWritten(c.kid(n, 1)), c.kid(n, 2))
	t := c.at(id)
	switch {
	case c.kind(first) == api.Name && c.uses[first] == nowhere:
		return c.calledOutside(k, c.nodes[first].Text)
	case t.Kind == api.KAny || c.offences[first]:
		return anyType
	case t.Kind == api.KFunc:
		return c.called(k, c.signatureOf(first, t))
	}
	c.offend(first)
	return anyType
}

// newCall goes through the arguments of a call.
func (c *checker) newCall(n int, types []int, list int) call {
	return call{n, types, c.nodes[list].Kids, c.each(list)}
}

// calledOutside is what print and input answer.
func (c *checker) calledOutside(k call, name string) int {
	if name == "print" {
		return undefinedType
	}
	if len(k.args) > 0 {
		c.offend(k.n)
	}
	return c.inputType()
}

// signatureOf is that of the function that a Call's first kid, of the type t, stands for.
func (c *checker) signatureOf(first int, t api.Type) signature {
	if c.kind(first) == api.Name && c.kind(c.uses[first]) == api.Func {
		decl := c.uses[first]
		return signed(c.at(c.function(decl)), c.parameters(decl))
	}
	if c.kind(first) == api.Member {
		return signed(t, c.methodVars(first))
	}
	return signed(t, nil)
}

// signed is the signature of a type of functions, with parameters for types.
func signed(t api.Type, vars []int) signature {
	last := len(t.Parts) - 1
	return signature{vars, t.Parts[:last], t.Marks, t.Parts[last]}
}

// methodVars is the parameters of the Method that a Member names, if its kid is of a Class that has one of that name. They stand in the piece's type as they are.
func (c *checker) methodVars(n int) []int {
	t := c.at(c.types[c.kid(n, 0)] - 1)
	if t.Kind != api.KRef || c.kind(t.Num) != api.Class {
		return nil
	}
	m, ok := c.shape(t.Num).named(c.nodes[n].Text)
	if !ok {
		return nil
	}
	return c.parameters(m.decl)
}

func (c *checker) ofNew(n int) int {
	first := c.kid(n, 0)
	id := c.expr(first)
	k := c.newCall(n, c.eachWritten(c.kid(n, 1)), c.kid(n, 2))
	t := c.at(id)
	if t.Kind == api.KClass {
		return c.called(k, c.ctor(t.Num))
	}
	if t.Kind != api.KAny {
		c.offend(first)
	}
	return anyType
}

func (c *checker) ofSuper(n int) int {
	base := c.base(c.place.class)
	k := c.newCall(n, base.types, c.kid(n, 0))
	if base.decl != nowhere {
		c.called(k, c.ctor(base.decl))
	}
	return undefinedType
}

// called is what a call of a function answers.
func (c *checker) called(k call, s signature) int {
	types := c.chosen(k, s)
	if len(k.args) < unmarked(s.marks) || len(k.args) > len(s.params) {
		c.offend(k.n)
	}
	for i := range min(len(k.args), len(s.params)) {
		c.need(c.subst(s.params[i], s.vars, types), k.args[i], k.given[i])
	}
	return c.subst(s.answer, s.vars, types)
}

func unmarked(marks []bool) int {
	count := 0
	for _, mark := range marks {
		if !mark {
			count++
		}
	}
	return count
}

// chosen is the types in the place of a function's parameters. Where the List has unlike many, those that it has count, and any for those that it lacks.
func (c *checker) chosen(k call, s signature) []int {
	if len(k.types) == 0 {
		return c.matched(k, s)
	}
	if len(k.types) != len(s.vars) {
		c.offend(k.n)
	}
	types := slices.Repeat([]int{anyType}, len(s.vars))
	copy(types, k.types)
	return types
}
