package check

import (
	"shuck/api"
	"shuck/fold"
)

// place is what the rules ask of where a node stands.
type place struct {
	class    int       // the Class of whose members it stands in the innermost
	owner    int       // the innermost function that is no Arrow
	answer   int       // the written answer's type of the innermost function, if it is a Func or a Method with one
	returned *returned // of an Arrow that is the innermost function
}

// returned is what an Arrow's Returns answer.
type returned struct {
	types    []int
	hasValue bool
}

// inOrder goes through the statements of a Program, a Block or a Namespace.
func (c *checker) inOrder(n int) {
way:
	for i, s := range c.statements(n, 0) {
		c.rules.statement[c.kind(s)](s)
		if !c.isReached {
			c.unreached(n, i+1)
			break way
		}
	}
}

// unreached goes through statements that are not reached.
func (c *checker) unreached(n, from int) {
	for _, s := range c.statements(n, from) {
		c.state = state{facts{}, true}
		c.rules.statement[c.kind(s)](s)
	}
	c.stop()
}

// inFunction does what stands in a function: nothing of it is seen behind. It tells whether its end is reached.
func (c *checker) inFunction(p place, do func()) bool {
	outer, s := c.place, c.state
	c.place, c.state = p, c.lasting()
	do()
	end := c.isReached
	c.place, c.state = outer, s
	return end
}

func (c *checker) nothing(int) {}

func (c *checker) ofVar(n int) {
	value := c.kid(n, 1)
	id := c.expr(value)
	c.given[n] = id
	if written := c.kid(n, 0); !c.isNone(written) {
		declared := c.written(written)
		c.need(declared, value, id)
		c.facts[n] = c.assign(declared, id)
	}
}

// need has an expression offend that may not stand where a type is asked for.
func (c *checker) need(asked, n, id int) {
	if !c.takes(asked, id) {
		c.offend(n)
	}
}

func (c *checker) ofFunc(n int) {
	c.inBody(n, place{class: nowhere, owner: n, answer: nowhere})
}

func (c *checker) ofMethod(n int) {
	c.inBody(n, place{class: c.classOf(n), owner: n, answer: nowhere})
}

// inBody goes through the Block of a Func or a Method.
func (c *checker) inBody(n int, p place) {
	written, block := c.kid(n, 2), c.kid(n, 3)
	if !c.isNone(written) {
		p.answer = c.written(written)
	}
	end := c.inFunction(p, func() { c.inOrder(block) })
	if end && p.answer != nowhere {
		c.need(p.answer, written, undefinedType)
	}
}

func (c *checker) ofCtor(n int) {
	p := place{class: c.classOf(n), owner: n, answer: nowhere}
	c.inFunction(p, func() { c.inOrder(c.kid(n, 1)) })
}

func (c *checker) ofField(n int) {
	written, value := c.kid(n, 0), c.kid(n, 1)
	if c.isNone(value) {
		return
	}
	p := place{class: c.classOf(n), owner: n, answer: nowhere}
	c.inFunction(p, func() { c.need(c.orAny(written), value, c.expr(value)) })
}

func (c *checker) ofClass(n int) {
	for _, m := range c.nodes[c.kid(n, 3)].Kids {
		c.rules.statement[c.kind(m)](m)
	}
}

func (c *checker) ofEnum(n int) {
	if _, at, e := fold.Members(c.apart(n), 0); e != api.OK {
		c.offend(n + at)
	}
	begin := c.state
	for _, m := range c.nodes[n].Kids {
		if value := c.kid(m, 0); !c.isNone(value) {
			c.state = begin.copied()
			c.expr(value)
		}
	}
	c.state = begin
}

// apart is a node's own tree: what is asked of the whole one, once for each Enum, would take too long where there are many.
func (l *layout) apart(n int) api.Tree {
	nodes := make([]api.Node, l.ends[n]-n)
	for i := range nodes {
		nodes[i] = l.nodes[n+i]
		nodes[i].Kids = make([]int, len(l.nodes[n+i].Kids))
		for j, kid := range l.nodes[n+i].Kids {
			nodes[i].Kids[j] = kid - n
		}
	}
	return api.Tree{Nodes: nodes}
}

func (c *checker) ofEval(n int) { c.expr(c.kid(n, 0)) }

func (c *checker) ofThrow(n int) {
	c.expr(c.kid(n, 0))
	c.stop()
}

// ofJump is a Break or a Continue.
func (c *checker) ofJump(int) { c.stop() }

func (c *checker) ofReturn(n int) {
	at, id := n, undefinedType
	if value := c.kid(n, 0); !c.isNone(value) {
		at, id = value, c.expr(value)
	}
	if c.place.answer != nowhere {
		c.need(c.place.answer, at, id)
	}
	if r := c.place.returned; r != nil {
		r.types = append(r.types, id)
		r.hasValue = r.hasValue || at != n
	}
	c.stop()
}

func (c *checker) ofIf(n int) {
	condition, otherwise := c.kid(n, 0), c.kid(n, 2)
	c.expr(condition)
	asked := c.state
	c.state = c.where(condition, true, asked)
	c.inOrder(c.kid(n, 1))
	yes := c.state
	c.state = c.where(condition, false, asked)
	if !c.isNone(otherwise) {
		c.rules.statement[c.kind(otherwise)](otherwise)
	}
	c.state = c.joined(yes, c.state)
}

func (c *checker) ofWhile(n int) {
	condition := c.kid(n, 0)
	begin := c.unassigned(n)
	c.state = begin.copied()
	c.expr(condition)
	c.state = c.where(condition, true, c.state)
	c.inOrder(c.kid(n, 1))
	c.behindLoop(n, condition, begin)
	if c.kind(condition) == api.True && !c.breaks[n] {
		c.stop()
	}
}

func (c *checker) ofFor(n int) {
	first, condition, third := c.kid(n, 0), c.kid(n, 1), c.kid(n, 2)
	if !c.isNone(first) {
		c.ofVar(first)
	}
	begin := c.unassigned(n)
	c.state = begin.copied()
	if !c.isNone(condition) {
		c.expr(condition)
	}
	asked := c.state
	if !c.isNone(third) {
		c.state = c.where(condition, true, asked)
		c.expr(third)
	}
	c.state = c.where(condition, true, asked)
	c.inOrder(c.kid(n, 3))
	c.behindLoop(n, condition, begin)
}

// behindLoop is what is known behind a loop: what was at its beginning; and that its condition said no, if it ends in no other way.
func (c *checker) behindLoop(n, condition int, begin state) {
	c.state = begin
	if !c.breaks[n] {
		c.state = c.where(condition, false, begin)
	}
}

func (c *checker) ofForOf(n int) {
	c.given[n] = c.elements(c.kid(n, 0))
	begin := c.unassigned(n)
	c.state = begin.copied()
	c.inOrder(c.kid(n, 1))
	c.state = begin
}

// elements is the type of what a ForOf goes through.
func (c *checker) elements(n int) int {
	var ids []int
	for _, part := range c.parts(c.expr(n)) {
		id, ok := c.element(part)
		if !ok {
			c.offend(n)
			return anyType
		}
		ids = append(ids, id)
	}
	return c.union(ids...)
}

// element is what a part of a type has by its numbers.
func (c *checker) element(part int) (int, bool) {
	switch t := c.at(part); t.Kind {
	case api.KArray:
		return t.Parts[0], true
	case api.KString, api.KStrIs:
		return stringType, true
	case api.KAny:
		return anyType, true
	}
	return anyType, false
}

func (c *checker) ofTry(n int) {
	catch, last := c.kid(n, 1), c.kid(n, 2)
	begin := c.unassigned(n)
	c.inOrder(c.kid(n, 0))
	end := c.isReached
	if !c.isNone(catch) {
		c.state = begin.copied()
		c.inOrder(c.kid(catch, 0))
		end = end || c.isReached
	}
	if !c.isNone(last) {
		c.state = begin.copied()
		c.inOrder(last)
		end = end && c.isReached
	}
	c.state = begin
	if !end {
		c.stop()
	}
}
