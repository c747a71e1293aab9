package value_test

import (
	"math/big"
	"slices"
	"strings"
	"testing"

	"shuck/api"
	"shuck/text"
	"shuck/value"
)

// A slow reading of chapter 14, word by word, with whole numbers that have no ends.

// thing is a value as the section Words takes it.
type thing struct {
	kind string
	num  *big.Int
	text string
}

func whole(n int) *big.Int { return big.NewInt(int64(n)) }

// power is 2 to the nth.
func power(n int) *big.Int { return new(big.Int).Exp(whole(2), whole(n), nil) }

func taken(v api.Value) thing {
	switch v.Kind {
	case api.VNull:
		return thing{kind: "null"}
	case api.VBool:
		if v.Num == 0 {
			return thing{kind: "false"}
		}
		return thing{kind: "true"}
	case api.VNumber:
		end := new(big.Int).Sub(power(53), whole(1))
		n := whole(v.Num)
		if n.Cmp(end) > 0 {
			return thing{kind: "number", num: end}
		}
		if low := new(big.Int).Neg(end); n.Cmp(low) < 0 {
			return thing{kind: "number", num: low}
		}
		return thing{kind: "number", num: n}
	case api.VString:
		return thing{kind: "text", text: v.Text}
	case api.VRef:
		return thing{kind: "ref", num: whole(v.Num)}
	}
	return thing{kind: "undefined"}
}

func (a thing) same(b thing) bool {
	return a.kind == b.kind && (a.num == nil || a.num.Cmp(b.num) == 0) && a.text == b.text
}

func slowTruth(v api.Value) bool {
	x := taken(v)
	switch x.kind {
	case "undefined", "null", "false":
		return false
	case "number":
		return x.num.Sign() != 0
	case "text":
		return x.text != ""
	}
	return true
}

func slowText(v api.Value) string {
	x := taken(v)
	switch x.kind {
	case "number":
		return x.num.String()
	case "text":
		return x.text
	case "ref":
		return ""
	}
	return x.kind
}

// digits is what is left of a number modulo 2^32.
func digits(n *big.Int) *big.Int { return new(big.Int).Mod(n, power(32)) }

// withSign is 32 digits as a number from -2^31 to 2^31 - 1.
func withSign(n *big.Int) *big.Int {
	d := digits(n)
	if d.Cmp(power(31)) >= 0 {
		d.Sub(d, power(32))
	}
	return d
}

// bitwise is made of the 32 digits of both, one by one, signed.
func bitwise(a, b *big.Int, f func(x, y uint) uint) *big.Int {
	x, y, sum := digits(a), digits(b), new(big.Int)
	for i := range 32 {
		if f(x.Bit(i), y.Bit(i)) == 1 {
			sum.Add(sum, power(i))
		}
	}
	return withSign(sum)
}

// below is the greatest whole number that is not more than a divided by 2 to the nth.
func below(a *big.Int, n int) *big.Int {
	left := new(big.Int).Mod(a, power(n))
	return new(big.Int).Quo(new(big.Int).Sub(a, left), power(n))
}

// reckoned is what an op makes of two numbers; nil, where there is nothing.
func reckoned(op string, a, b *big.Int) *big.Int {
	shift := int(new(big.Int).Mod(b, whole(32)).Int64())
	switch op {
	case "+":
		return new(big.Int).Add(a, b)
	case "-":
		return new(big.Int).Sub(a, b)
	case "*":
		return new(big.Int).Mul(a, b)
	case "%":
		if b.Sign() == 0 {
			return nil
		}
		left := new(big.Int).Mod(new(big.Int).Abs(a), new(big.Int).Abs(b))
		return left.Mul(left, whole(a.Sign()))
	case "&":
		return bitwise(a, b, func(x, y uint) uint { return x * y })
	case "|":
		return bitwise(a, b, func(x, y uint) uint { return max(x, y) })
	case "^":
		return bitwise(a, b, func(x, y uint) uint { return (x + y) % 2 })
	case "<<":
		return withSign(new(big.Int).Mul(digits(a), power(shift)))
	case ">>":
		return below(withSign(a), shift)
	}
	return below(digits(a), shift)
}

// slowNumber is a number as an answer, unless it is inexact.
func slowNumber(n *big.Int) answer {
	if n == nil || n.CmpAbs(power(53)) >= 0 {
		return answer{fault: api.FaultInexact}
	}
	return answer{v: api.Value{Kind: api.VNumber, Num: int(n.Int64())}}
}

func slowBool(is bool) answer {
	n := 0
	if is {
		n = 1
	}
	return answer{v: api.Value{Kind: api.VBool, Num: n}}
}

func slowUnary(op string, v api.Value) answer {
	x := taken(v)
	switch {
	case op == "!":
		return slowBool(!slowTruth(v))
	case op != "-" && op != "~":
		return answer{}
	case x.kind != "number":
		return answer{text: "TypeError: number", fault: api.FaultThrow}
	case op == "-":
		return slowNumber(new(big.Int).Neg(x.num))
	}
	return slowNumber(new(big.Int).Sub(new(big.Int).Neg(withSign(x.num)), whole(1)))
}

// runes is a text's runes, as chapter 1 has them.
func runes(s string) []rune {
	var l []rune
	for _, r := range text.Runes([]byte(s)) {
		l = append(l, r)
	}
	return l
}

// slowOrder is -1, 0 or 1: a is less, none is, b is.
func slowOrder(a, b thing) int {
	if a.kind == "number" {
		return a.num.Cmp(b.num)
	}
	return slices.Compare(runes(a.text), runes(b.text))
}

func slowSum(a, b api.Value) answer {
	x, y := taken(a), taken(b)
	if x.kind == "number" && y.kind == "number" {
		return slowNumber(reckoned("+", x.num, y.num))
	}
	if (x.kind == "text" || y.kind == "text") && x.kind != "ref" && y.kind != "ref" {
		both := slowText(a) + slowText(b)
		if len(both) > 65536 {
			return answer{fault: api.FaultFull}
		}
		return answer{v: api.Value{Kind: api.VString, Text: both}}
	}
	return answer{text: "TypeError: +", fault: api.FaultThrow}
}

func slowBinary(op string, a, b api.Value) answer {
	x, y := taken(a), taken(b)
	switch op {
	case "===":
		return slowBool(x.same(y))
	case "!==":
		return slowBool(!x.same(y))
	case "+":
		return slowSum(a, b)
	case "-", "*", "%", "&", "|", "^", "<<", ">>", ">>>":
		if x.kind == "number" && y.kind == "number" {
			return slowNumber(reckoned(op, x.num, y.num))
		}
		return answer{text: "TypeError: number", fault: api.FaultThrow}
	case "<", "<=", ">", ">=":
		if x.kind != y.kind || x.kind != "number" && x.kind != "text" {
			return answer{text: "TypeError: order", fault: api.FaultThrow}
		}
		sign := slowOrder(x, y)
		return slowBool(sign == 0 && strings.HasSuffix(op, "=") || sign < 0 && op[0] == '<' || sign > 0 && op[0] == '>')
	}
	return answer{}
}

// agreesOne holds all calls of one value against the slow reading.
func agreesOne(t *testing.T, op string, v api.Value) {
	t.Helper()
	if got, want := value.Truth(v), slowTruth(v); got != want {
		t.Errorf("Truth(%v): %v", short(v), got)
	}
	if got, want := value.Text(v), slowText(v); got != want {
		t.Errorf("Text(%v): %.60q, not %.60q", short(v), got, want)
	}
	turns(t, op, v, slowUnary(op, v))
}

// agrees holds Binary, both ways round, against the slow reading.
func agrees(t *testing.T, op string, a, b api.Value) {
	t.Helper()
	makes(t, op, a, b, slowBinary(op, a, b))
	makes(t, op, b, a, slowBinary(op, b, a))
}
