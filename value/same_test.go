package value_test

import (
	"math"
	"strings"
	"testing"

	"shuck/api"
)

// families are values in groups: those of one are the same, those of two are not.
func families() [][]api.Value {
	return [][]api.Value{
		{undefined(), {Num: 1, Text: "a"}, {Kind: 6}, {Kind: 7, Num: 1}, {Kind: -1, Text: "a"}, {Kind: math.MinInt}, {Kind: math.MaxInt, Num: 9}},
		{null(), {Kind: api.VNull, Num: 1}, {Kind: api.VNull, Text: "null"}},
		{is(false), {Kind: api.VBool, Text: "a"}},
		{is(true), {Kind: api.VBool, Num: 2}, {Kind: api.VBool, Num: -1, Text: "a"}, {Kind: api.VBool, Num: math.MinInt}},
		{num(0), {Kind: api.VNumber, Text: "1"}}, {num(1), {Kind: api.VNumber, Num: 1, Text: "1"}}, {num(-1)}, {num(1 << 32)}, {num(top - 1)}, {num(1 - top)},
		{num(top), num(top + 1), num(math.MaxInt)}, {num(-top), num(-top - 1), num(math.MinInt)},
		{words(""), {Kind: api.VString, Num: 1}}, {words("a"), words(strings.Clone("a")), {Kind: api.VString, Num: -1, Text: "a"}}, {words("ab")}, {words("A")}, {words("0")}, {words("1")}, {words("true")}, {words("undefined")},
		{words("\xff")}, {words("\xfe")}, {words("\uFFFD")}, {words("é")}, {words("e\u0301")},
		{ref(0), {Kind: api.VRef, Text: "a"}}, {ref(1), {Kind: api.VRef, Num: 1, Text: "1"}}, {ref(-1)}, {ref(top)}, {ref(top + 1)}, {ref(math.MaxInt)}, {ref(-top)}, {ref(math.MinInt)},
	}
}

// P14.4: === and !== of each two values: those of one kind, and of one Num or Text, if their kind has it.
func TestSame(t *testing.T) {
	for i, as := range families() {
		for j, bs := range families() {
			for _, a := range as {
				for _, b := range bs {
					makes(t, "===", a, b, truth(i == j))
					makes(t, "!==", a, b, truth(i != j))
				}
			}
		}
	}
}

// P14.4: what each op does with each two kinds: n a number, t a text, b whether, s o n throws of a sum, an order, a number.
func TestEachTwoKinds(t *testing.T) {
	kinds := []api.Value{undefined(), null(), is(true), num(6), words("6"), ref(6)}
	plus := []string{
		"++++t+",
		"++++t+",
		"++++t+",
		"+++nt+",
		"ttttt+",
		"++++++",
	}
	letter := func(op string, i, j int) byte {
		numbers, texts := kinds[i].Kind == api.VNumber && kinds[j].Kind == api.VNumber, kinds[i].Kind == api.VString && kinds[j].Kind == api.VString
		switch {
		case op == "===" || op == "!==":
			return 'b'
		case op == "+":
			return plus[i][j]
		case op == "<" || op == "<=" || op == ">" || op == ">=":
			if numbers || texts {
				return 'b'
			}
			return 'o'
		case numbers:
			return 'n'
		}
		return '#'
	}
	for _, op := range binaryOps() {
		for i, a := range kinds {
			for j, b := range kinds {
				if got, want := letterOf(binary(op, a, b)), letter(op, i, j); got != want {
					t.Errorf("%v %s %v: %c, not %c", a, op, b, got, want)
				}
			}
		}
	}
}

// letterOf is what an answer is, in a letter.
func letterOf(a answer) byte {
	switch {
	case a == thrown(noSum):
		return '+'
	case a == thrown(noOrder):
		return 'o'
	case a == thrown(noNumber):
		return '#'
	case a.text != "" || a.fault != api.FaultNone:
		return '?'
	}
	return "u-bntr"[a.v.Kind]
}

// P14.4: any other op makes nothing of whatever two values, those of Unary too; it does not throw.
func TestNoBinary(t *testing.T) {
	for _, op := range append(noOps(), "!", "~", "*-", "<>", "&|", "> >", "!==!") {
		for _, a := range ones() {
			for _, b := range ones() {
				makes(t, op, a, b, nothing())
			}
		}
	}
}
