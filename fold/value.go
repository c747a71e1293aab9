package fold

import "shuck/api"

// value is the number that an expression of a checked tree is; it gives up where that is none.
func value(l []api.Node, n int) int {
	node := &l[n]
	switch node.Kind {
	case api.Num:
		return node.Num
	case api.Unary:
		return unary(node.Text, value(l, node.Kids[0]))
	case api.Binary:
		return binary(node.Text, value(l, node.Kids[0]), value(l, node.Kids[1]))
	}
	panic(refusal{})
}

func unary(sign string, a int) int {
	switch sign {
	case "-":
		return -a
	case "~":
		return int(^signed(a))
	}
	panic(refusal{})
}

func binary(sign string, a, b int) int {
	switch sign {
	case "+":
		return exact(a + b)
	case "-":
		return exact(a - b)
	case "*":
		return product(a, b)
	case "%":
		return rest(a, b)
	case "<<":
		return int(signed(a) << places(b))
	case ">>":
		return int(signed(a) >> places(b))
	case ">>>":
		return int(uint32(a) >> places(b))
	case "&":
		return int(signed(a) & signed(b))
	case "|":
		return int(signed(a) | signed(b))
	case "^":
		return int(signed(a) ^ signed(b))
	}
	panic(refusal{})
}

// exact is a number that is one at run time too; it gives up, if it is beyond the ends.
func exact(n int) int {
	if n < -api.MaxNumber || n > api.MaxNumber {
		panic(refusal{})
	}
	return n
}

// product is held against the ends ahead of being made: what is far beyond them would wrap, and might come back.
func product(a, b int) int {
	if b != 0 && size(a) > api.MaxNumber/size(b) {
		panic(refusal{})
	}
	return a * b
}

func size(n int) int { return max(n, -n) }

func rest(a, b int) int {
	if b == 0 {
		panic(refusal{})
	}
	return a % b
}

// signed is the lowest 32 binary digits of a number, with the highest of them as its sign.
func signed(n int) int32 { return int32(n) }

// places is by how many digits a number shifts.
func places(n int) int { return n & 31 }
