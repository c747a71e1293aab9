package fold_test

import (
	"math/big"
	"strings"

	"shuck/api"
	"shuck/tree"
)

// A slow reading of chapters 11 and 14, word by word, with whole numbers that have no ends.

const (
	expressionKinds = " 10 11 12 13 14 15 16 17 18 19 20 22 23 24 25 26 27 28 29 30 31 32 33 34 "
	constantUnary   = " - ~ "
	constantBinary  = " + - * % << >> >>> & | ^ "
)

func has(words, word string) bool { return strings.Contains(words, " "+word+" ") }

// power is 2 to the nth.
func power(n int) *big.Int { return new(big.Int).Exp(big.NewInt(2), big.NewInt(int64(n)), nil) }

// digits is what is left of a number modulo 2^32.
func digits(n *big.Int) *big.Int { return new(big.Int).Mod(n, power(32)) }

// withSign is 32 digits as a number from -2^31 to 2^31 - 1.
func withSign(n *big.Int) *big.Int {
	d := digits(n)
	if d.Cmp(power(31)) >= 0 {
		d.Sub(d, power(32))
	}
	return d
}

// bitwise is made of the 32 digits of both, one by one, signed.
func bitwise(a, b *big.Int, f func(x, y uint) uint) *big.Int {
	x, y, sum := digits(a), digits(b), new(big.Int)
	for i := range 32 {
		if f(x.Bit(i), y.Bit(i)) == 1 {
			sum.Add(sum, power(i))
		}
	}
	return withSign(sum)
}

// remainder is what is left of the size of a behind as many times the size of b as there are, with the sign of a.
func remainder(a, b *big.Int) *big.Int {
	left := new(big.Int).Mod(new(big.Int).Abs(a), new(big.Int).Abs(b))
	if a.Sign() < 0 {
		left.Neg(left)
	}
	return left
}

// below is the greatest whole number that is not more than a divided by 2 to the nth.
func below(a *big.Int, n int) *big.Int {
	left := new(big.Int).Mod(a, power(n))
	return new(big.Int).Quo(new(big.Int).Sub(a, left), power(n))
}

// operated is what an operator of numbers makes of two; nil, if that is inexact.
func operated(sign string, a, b *big.Int) *big.Int {
	shift := int(new(big.Int).Mod(b, big.NewInt(32)).Int64())
	r := new(big.Int)
	switch sign {
	case "+":
		r.Add(a, b)
	case "-":
		r.Sub(a, b)
	case "*":
		r.Mul(a, b)
	case "%":
		if b.Sign() == 0 {
			return nil
		}
		r = remainder(a, b)
	case "<<":
		r = withSign(new(big.Int).Mul(digits(a), power(shift)))
	case ">>":
		r = below(withSign(a), shift)
	case ">>>":
		r = below(digits(a), shift)
	case "&":
		r = bitwise(a, b, func(x, y uint) uint { return x * y })
	case "|":
		r = bitwise(a, b, func(x, y uint) uint { return max(x, y) })
	case "^":
		r = bitwise(a, b, func(x, y uint) uint { return (x + y) % 2 })
	}
	if r.CmpAbs(big.NewInt(api.MaxNumber)) > 0 {
		return nil
	}
	return r
}

// reckoned is the value of an expression of constants; nil, if it is none or has none.
func reckoned(l []api.Node, n int) *big.Int {
	x := l[n]
	switch {
	case x.Kind == api.Num:
		return big.NewInt(int64(x.Num))
	case x.Kind == api.Unary && has(constantUnary, x.Text):
		a := reckoned(l, x.Kids[0])
		if a == nil {
			return nil
		}
		if x.Text == "~" {
			return new(big.Int).Sub(new(big.Int).Neg(withSign(a)), big.NewInt(1))
		}
		return new(big.Int).Neg(a)
	case x.Kind == api.Binary && has(constantBinary, x.Text):
		a, b := reckoned(l, x.Kids[0]), reckoned(l, x.Kids[1])
		if a == nil || b == nil {
			return nil
		}
		return operated(x.Text, a, b)
	}
	return nil
}

// slowValue is what Value must answer.
func slowValue(x api.Tree, n int) (int, api.Errno) {
	if _, e := tree.Check(x); e != api.OK {
		return 0, api.ErrTree
	}
	if n < 0 || n >= len(x.Nodes) || !has(expressionKinds, big.NewInt(int64(x.Nodes[n].Kind)).String()) {
		return 0, api.ErrArg
	}
	v := reckoned(x.Nodes, n)
	if v == nil {
		return 0, api.ErrType
	}
	return int(v.Int64()), api.OK
}

// slowMembers is what Members must answer.
func slowMembers(x api.Tree, n int) answer {
	if _, e := tree.Check(x); e != api.OK {
		return answer{nil, 0, api.ErrTree}
	}
	if n < 0 || n >= len(x.Nodes) || x.Nodes[n].Kind != api.Enum {
		return answer{nil, 0, api.ErrArg}
	}
	var l []api.Constant
	for _, k := range x.Nodes[n].Kids {
		for _, ahead := range l {
			if ahead.Name == x.Nodes[k].Text {
				return answer{nil, k, api.ErrType}
			}
		}
		c, ok := slowMember(x, k, l)
		if !ok {
			return answer{nil, k, api.ErrType}
		}
		l = append(l, c)
	}
	return answer{l, -1, api.OK}
}

// slowMember is a member behind others.
func slowMember(x api.Tree, n int, ahead []api.Constant) (api.Constant, bool) {
	c := api.Constant{Name: x.Nodes[n].Text, Node: n}
	kid := x.Nodes[n].Kids[0]
	switch {
	case x.Nodes[kid].Kind == api.Str:
		c.Text, c.IsText = x.Nodes[kid].Text, true
		return c, true
	case x.Nodes[kid].Kind != api.None:
		v, e := slowValue(x, kid)
		c.Num = v
		return c, e == api.OK
	case len(ahead) == 0:
		return c, true
	}
	last := ahead[len(ahead)-1]
	c.Num = last.Num + 1
	return c, !last.IsText && last.Num != api.MaxNumber
}
