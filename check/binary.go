package check

import "shuck/api"

// operation is a sign and what stands at its sides: of a Binary, or of an Assign that reckons.
type operation struct {
	n           int // the node that has the sign
	sign        string
	left, right int // its kids
	x, y        int // their types
}

func (c *checker) ofBinary(n int) int {
	node := c.nodes[n]
	if node.Text == "&&" || node.Text == "||" {
		return c.choice(n)
	}
	left, right := node.Kids[0], node.Kids[1]
	return c.operated(operation{n, node.Text, left, right, c.expr(left), c.expr(right)})
}

// choice is a Binary whose right kid is done or not.
func (c *checker) choice(n int) int {
	left, right := c.kid(n, 0), c.kid(n, 1)
	on := c.nodes[n].Text == "&&" // what the left one says where the right one is done
	x := c.expr(left)
	asked := c.state
	c.state = c.where(left, on, asked)
	y := c.expr(right)
	c.state = c.joined(c.state, c.where(left, !on, asked))
	return c.union(c.keep(x, api.Test{Kind: api.TestTruth}, !on), y)
}

// operated is the type of what an operation makes.
func (c *checker) operated(o operation) int {
	switch o.sign {
	case "===", "!==":
		return c.boolean()
	case "in":
		return c.looked(o)
	case "<", "<=", ">", ">=":
		return c.compared(o)
	case "+":
		return c.added(o)
	}
	c.need(numberType, o.left, o.x)
	c.need(numberType, o.right, o.y)
	return numberType
}

func (c *checker) looked(o operation) int {
	c.need(stringType, o.left, o.x)
	if _, some := c.piecesOf(o.y); !some && o.y != anyType {
		c.offend(o.right)
	}
	return c.boolean()
}

func (c *checker) compared(o operation) int {
	isNumber, isString := c.sides(numberType, o), c.sides(stringType, o)
	if !isNumber.both() && !isString.both() {
		c.offend(o.n)
	}
	return c.boolean()
}

// sides is which sides of an operation a type takes.
type sides struct{ left, right bool }

func (s sides) both() bool { return s.left && s.right }

func (c *checker) sides(id int, o operation) sides {
	return sides{c.takes(id, o.x), c.takes(id, o.y)}
}

// added is the type of a sum. Each question is asked, whatever the others answer: one that is too complex is the answer to all.
func (c *checker) added(o operation) int {
	shown := c.union(stringType, numberType, falseType, trueType, nullType, undefinedType)
	isNumber, isString, isShown := c.sides(numberType, o), c.sides(stringType, o), c.sides(shown, o)
	switch {
	case o.x == anyType || o.y == anyType:
		return anyType
	case isNumber.both():
		return numberType
	case isString.left && isShown.right || isString.right && isShown.left:
		return stringType
	}
	c.offend(o.n)
	return anyType
}
