package value_test

import (
	"math"
	"slices"
	"strings"
	"testing"

	"shuck/api"
	"shuck/value"
)

func num(n int) api.Value       { return api.Value{Kind: api.VNumber, Num: n} }
func words(s string) api.Value  { return api.Value{Kind: api.VString, Text: s} }
func ref(n int) api.Value       { return api.Value{Kind: api.VRef, Num: n} }
func undefined() api.Value      { return api.Value{} }
func null() api.Value           { return api.Value{Kind: api.VNull} }
func answered(n int) answer     { return answer{num(n), "", api.FaultNone} }
func joined(s string) answer    { return answer{words(s), "", api.FaultNone} }
func thrown(text string) answer { return answer{undefined(), text, api.FaultThrow} }
func inexact() answer           { return answer{undefined(), "", api.FaultInexact} }
func full() answer              { return answer{undefined(), "", api.FaultFull} }
func nothing() answer           { return answer{undefined(), "", api.FaultNone} }

func is(b bool) api.Value {
	if b {
		return api.Value{Kind: api.VBool, Num: 1}
	}
	return api.Value{Kind: api.VBool}
}

func truth(b bool) answer { return answer{is(b), "", api.FaultNone} }

const (
	noNumber = "TypeError: number"
	noSum    = "TypeError: +"
	noOrder  = "TypeError: order"
)

// answer is what Unary and Binary answer.
type answer struct {
	v     api.Value
	text  string
	fault int
}

func unary(op string, v api.Value) answer {
	var a answer
	a.v, a.text, a.fault = value.Unary(op, v)
	return a
}

func binary(op string, a, b api.Value) answer {
	var x answer
	x.v, x.text, x.fault = value.Binary(op, a, b)
	return x
}

// short is a value that can be told.
func short(v api.Value) api.Value {
	if len(v.Text) > 60 {
		v.Text = v.Text[:20] + " .. " + v.Text[len(v.Text)-20:]
	}
	return v
}

func (a answer) short() answer {
	a.v = short(a.v)
	return a
}

// makes holds what Binary answers against what is wanted.
func makes(t *testing.T, op string, a, b api.Value, want answer) {
	t.Helper()
	if got := binary(op, a, b); got != want {
		t.Errorf("%v %q %v: %v, not %v", short(a), op, short(b), got.short(), want.short())
	}
}

// turns holds what Unary answers against what is wanted.
func turns(t *testing.T, op string, v api.Value, want answer) {
	t.Helper()
	if got := unary(op, v); got != want {
		t.Errorf("%q of %v: %v, not %v", op, short(v), got.short(), want.short())
	}
}

func unaryOps() []string { return strings.Fields("! - ~") }

// binaryOps are all operators of two values; those of numbers alone are among them.
func binaryOps() []string {
	return slices.Concat(strings.Fields("=== !== +"), numberOps(), orderOps())
}

func numberOps() []string { return strings.Fields("- * % & | ^ << >> >>>") }

func orderOps() []string { return strings.Fields("< <= > >=") }

// noOps are what no chapter has, and what other chapters have: neither Unary nor Binary takes one.
func noOps() []string {
	l := strings.Fields("? ?? && || in typeof instanceof void delete = == != += -= ++ -- ** / >>>> >>>>> <<< ==== !=== => . ( é")
	return append(l, "", " ", "+ ", " +", "+\x00", "\x00+", "\xff", "! ", "~\n", strings.Repeat("+", 1<<17), strings.Repeat("===", 3))
}

// edgeNumbers are those at which something changes, and some beside them.
func edgeNumbers() []int {
	l := []int{0, 1, 2, 3, 5, 7, 30, 31, 32, 33, 63, 64, 94906265, 94906266, 94906267, math.MaxInt, math.MaxInt - 1}
	for _, n := range []int{16, 26, 27, 31, 32, 33, 52, 53, 54, 62} {
		l = append(l, 1<<n-2, 1<<n-1, 1<<n, 1<<n+1)
	}
	for _, n := range slices.Clone(l) {
		l = append(l, -n)
	}
	return append(l, math.MinInt)
}

// someTexts are texts of each sort: the beginnings of others, of unlike many bytes a rune, not UTF-8.
func someTexts() []string {
	return []string{
		"", "a", "ab", "abc", "b", "z", "é", "éa", "aé", "ê", "€", "\uFFFD", "\uFFFDa", "\uFFFF", "\U00010000", "\U0001f600", "\U0010ffff",
		"\xff", "\xffa", "\xfe", "a\xff", "\xff\xff", "\xc3", "\xc3a", "\xe2\x82", "\xed\xa0\x80", "\xf4\x90\x80\x80", "\x00", "\x00\x00", "\x7f", "\u0080",
		"0", "1", "true", "null", "undefined", "length", " ",
	}
}

// ones are values of each kind: as they are answered, and as the section Words takes them.
func ones() []api.Value {
	l := []api.Value{
		undefined(), null(), is(false), is(true), num(0), num(1), num(-1), num(42), words(""), words("a"), words("b"), words("ab"), ref(0), ref(1), ref(-1), ref(math.MaxInt), ref(math.MinInt),
		{Kind: 6}, {Kind: -1, Num: 3, Text: "x"}, {Kind: math.MaxInt}, {Kind: math.MinInt, Text: "y"}, {Kind: api.VUndefined, Num: 1, Text: "z"},
		{Kind: api.VNull, Num: 1}, {Kind: api.VNull, Text: "n"},
		{Kind: api.VBool, Num: 2}, {Kind: api.VBool, Num: -1, Text: "b"}, {Kind: api.VBool, Num: math.MinInt}, {Kind: api.VBool, Text: "true"},
		{Kind: api.VNumber, Num: 1, Text: "1"}, {Kind: api.VNumber, Text: "5"},
		{Kind: api.VString, Num: 1, Text: "a"}, {Kind: api.VString, Num: -7},
		{Kind: api.VRef, Num: 1, Text: "r"}, {Kind: api.VRef, Text: "a"},
	}
	for _, n := range []int{api.MaxNumber, api.MaxNumber + 1, math.MaxInt, -api.MaxNumber, -api.MaxNumber - 1, math.MinInt} {
		l = append(l, num(n))
	}
	return l
}
