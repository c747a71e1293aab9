package value_test

import (
	"math"
	"slices"
	"strings"
	"testing"

	"shuck/api"
	"shuck/value"
)

// P14.1: what is not truthy, what is, and values as the section Words takes them.
func TestTruth(t *testing.T) {
	for _, v := range []api.Value{
		undefined(), null(), is(false), num(0), words(""),
		{Kind: 6, Num: 1, Text: "a"}, {Kind: -1, Num: 1}, {Kind: math.MaxInt, Text: "a"}, {Kind: math.MinInt, Num: 1}, {Kind: api.VUndefined, Num: 1, Text: "a"}, {Kind: api.VNull, Num: 1, Text: "a"},
		{Kind: api.VBool, Text: "true"}, {Kind: api.VNumber, Text: "1"}, {Kind: api.VString, Num: 1},
	} {
		if value.Truth(v) {
			t.Errorf("%v is truthy", v)
		}
	}
	for _, v := range []api.Value{
		is(true), num(1), num(-1), num(api.MaxNumber), num(-api.MaxNumber), words("a"), words("0"), words("false"), words(" "), words("\x00"), words("\xff"), ref(0), ref(1), ref(-1),
		{Kind: api.VBool, Num: 2}, {Kind: api.VBool, Num: -1}, num(math.MaxInt), num(math.MinInt), {Kind: api.VRef, Text: "a"},
	} {
		if !value.Truth(v) {
			t.Errorf("%v is not truthy", v)
		}
	}
}

// P14.2: of each kind its text, of a thing none; numbers at the ends and beyond them.
func TestText(t *testing.T) {
	long := strings.Repeat("aé", api.MaxBytes)
	for _, x := range []struct {
		v    api.Value
		want string
	}{
		{undefined(), "undefined"}, {api.Value{Kind: 6, Num: 1, Text: "a"}, "undefined"}, {api.Value{Kind: -1}, "undefined"}, {api.Value{Kind: math.MinInt}, "undefined"}, {api.Value{Num: 3, Text: "a"}, "undefined"},
		{null(), "null"}, {api.Value{Kind: api.VNull, Num: 1, Text: "a"}, "null"},
		{is(true), "true"}, {is(false), "false"}, {api.Value{Kind: api.VBool, Num: 7}, "true"}, {api.Value{Kind: api.VBool, Num: -7}, "true"}, {api.Value{Kind: api.VBool, Text: "true"}, "false"},
		{num(0), "0"}, {num(7), "7"}, {num(-7), "-7"}, {num(10), "10"}, {num(99), "99"}, {num(100), "100"}, {num(-100), "-100"}, {num(2147483648), "2147483648"}, {num(-4294967296), "-4294967296"},
		{num(api.MaxNumber), "9007199254740991"}, {num(api.MaxNumber - 1), "9007199254740990"}, {num(-api.MaxNumber), "-9007199254740991"}, {num(1 - api.MaxNumber), "-9007199254740990"},
		{num(api.MaxNumber + 1), "9007199254740991"}, {num(math.MaxInt), "9007199254740991"}, {num(-api.MaxNumber - 1), "-9007199254740991"}, {num(math.MinInt), "-9007199254740991"},
		{api.Value{Kind: api.VNumber, Num: 5, Text: "6"}, "5"},
		{words(""), ""}, {words("a"), "a"}, {words("\"é\n\xff\x00"), "\"é\n\xff\x00"}, {words("undefined"), "undefined"}, {words(long), long}, {api.Value{Kind: api.VString, Num: 5, Text: "6"}, "6"},
		{ref(0), ""}, {ref(7), ""}, {ref(-1), ""}, {api.Value{Kind: api.VRef, Text: "a"}, ""},
	} {
		if got := value.Text(x.v); got != x.want {
			t.Errorf("Text(%v): %.60q, not %.60q", short(x.v), got, x.want)
		}
	}
}

// P14.3: ! is of whatever value whether it is not truthy.
func TestNot(t *testing.T) {
	for _, v := range []api.Value{undefined(), null(), is(false), num(0), words(""), {Kind: 9, Num: 1}, {Kind: api.VNumber, Text: "1"}, {Kind: api.VString, Num: 1}} {
		turns(t, "!", v, truth(true))
	}
	for _, v := range []api.Value{is(true), num(1), num(math.MinInt), words("0"), ref(0), ref(5), {Kind: api.VBool, Num: 2}} {
		turns(t, "!", v, truth(false))
	}
}

// P14.3: the opposite of a number, at both ends and beyond them.
func TestOpposite(t *testing.T) {
	for _, x := range [][2]int{
		{0, 0}, {1, -1}, {-1, 1}, {42, -42}, {1 << 31, -1 << 31}, {-1 << 31, 1 << 31}, {1 << 32, -1 << 32},
		{api.MaxNumber, -api.MaxNumber}, {-api.MaxNumber, api.MaxNumber}, {api.MaxNumber - 1, 1 - api.MaxNumber},
		{api.MaxNumber + 1, -api.MaxNumber}, {math.MaxInt, -api.MaxNumber}, {-api.MaxNumber - 1, api.MaxNumber}, {math.MinInt, api.MaxNumber},
	} {
		turns(t, "-", num(x[0]), answered(x[1]))
	}
	turns(t, "-", api.Value{Kind: api.VNumber, Num: 3, Text: "4"}, answered(-3))
}

// P14.3: the opposite less one of a number's 32 digits.
func TestTurned(t *testing.T) {
	for _, x := range [][2]int{
		{0, -1}, {-1, 0}, {1, -2}, {-2, 1}, {5, -6},
		{1<<31 - 1, -1 << 31}, {1 << 31, 1<<31 - 1}, {1<<31 + 1, 1<<31 - 2}, {-1 << 31, 1<<31 - 1}, {-1<<31 - 1, -1 << 31}, {1 - 1<<31, 1<<31 - 2},
		{1<<32 - 1, 0}, {1 << 32, -1}, {1<<32 + 1, -2}, {-1 << 32, -1}, {-1<<32 - 1, 0}, {1 - 1<<32, -2},
		{api.MaxNumber, 0}, {api.MaxNumber - 1, 1}, {-api.MaxNumber, -2}, {1 - api.MaxNumber, -3}, {1 << 52, -1},
		{api.MaxNumber + 1, 0}, {math.MaxInt, 0}, {1 << 60, 0}, {-api.MaxNumber - 1, -2}, {math.MinInt, -2},
	} {
		turns(t, "~", num(x[0]), answered(x[1]))
	}
}

// P14.3: - and ~ throw of what is no number, of a thing too.
func TestUnaryThrows(t *testing.T) {
	for _, op := range []string{"-", "~"} {
		for _, v := range []api.Value{undefined(), null(), is(false), is(true), words(""), words("1"), ref(0), ref(3), {Kind: 6, Num: 1}, {Kind: api.VString, Num: 1, Text: "1"}} {
			turns(t, op, v, thrown(noNumber))
		}
	}
}

// P14.3: any other op makes nothing of whatever value, those of Binary too; it does not throw.
func TestNoUnary(t *testing.T) {
	for _, op := range slices.Concat(noOps(), binaryOps(), []string{"!!", "~~", "!-"}) {
		if op == "-" {
			continue
		}
		for _, v := range ones() {
			turns(t, op, v, nothing())
		}
	}
}
