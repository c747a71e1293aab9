package value_test

import (
	"math"
	"strings"
	"testing"

	"shuck/api"
)

// P14.4: + with a text is the texts of both, one behind the other, in their order.
func TestJoined(t *testing.T) {
	for _, x := range []struct {
		a, b api.Value
		want string
	}{
		{words("a"), words("b"), "ab"}, {words("b"), words("a"), "ba"}, {words(""), words(""), ""}, {words("a"), words(""), "a"}, {words(""), words("a"), "a"},
		{words("a"), undefined(), "aundefined"}, {undefined(), words("a"), "undefineda"}, {words("a"), null(), "anull"}, {null(), words("a"), "nulla"},
		{words("a"), is(true), "atrue"}, {is(false), words("a"), "falsea"}, {words(""), api.Value{Kind: api.VBool, Num: -3}, "true"},
		{words("a"), num(5), "a5"}, {num(5), words("a"), "5a"}, {words("1"), num(2), "12"}, {num(1), words("2"), "12"}, {words(""), num(0), "0"}, {words("a"), num(-7), "a-7"}, {num(-7), words(""), "-7"},
		{words("n"), num(top), "n9007199254740991"}, {words("n"), num(top + 1), "n9007199254740991"}, {num(math.MinInt), words("n"), "-9007199254740991n"},
		{words("a"), api.Value{Kind: 6, Num: 1, Text: "x"}, "aundefined"}, {api.Value{Kind: -1}, words("a"), "undefineda"}, {words("a"), api.Value{Kind: api.VNull, Text: "x"}, "anull"}, {words("a"), api.Value{Kind: api.VNumber, Num: 3, Text: "x"}, "a3"},
		{api.Value{Kind: api.VString, Num: 7, Text: "a"}, num(1), "a1"},
		{words("\xff"), words("\xc3"), "\xff\xc3"}, {words("\xc3"), words("\xa9"), "é"}, {words("\x00"), words("é"), "\x00é"},
	} {
		makes(t, "+", x.a, x.b, joined(x.want))
	}
}

// P14.4: what + does with each two kinds that make neither a sum nor a text; a thing beside a text throws too.
func TestSumThrows(t *testing.T) {
	for _, x := range [][2]api.Value{
		{num(1), is(true)}, {is(true), is(true)}, {is(true), null()}, {null(), null()}, {null(), undefined()}, {undefined(), undefined()}, {undefined(), is(false)}, {num(1), null()}, {num(1), undefined()},
		{num(1), ref(1)}, {ref(1), ref(1)}, {ref(1), ref(2)}, {ref(1), null()}, {ref(1), undefined()}, {ref(1), is(true)}, {ref(1), words("a")}, {ref(0), words("")}, {api.Value{Kind: api.VRef, Text: "a"}, words("b")},
		{api.Value{Kind: 6, Text: "a"}, num(1)}, {api.Value{Kind: 7}, ref(1)}, {api.Value{Kind: api.VNull, Text: "a"}, is(true)},
		{ref(1), words(strings.Repeat("a", api.MaxBytes+1))}, {num(top), is(true)},
	} {
		makes(t, "+", x[0], x[1], thrown(noSum))
		makes(t, "+", x[1], x[0], thrown(noSum))
	}
}

// P14.4: + makes MaxBytes bytes, not one more; of a text with each kind that is text.
func TestTooLong(t *testing.T) {
	for _, x := range []struct {
		v    api.Value
		text string
	}{
		{words(""), ""}, {words("b"), "b"}, {words("é"), "é"}, {words("\xff"), "\xff"}, {words("abc"), "abc"}, {num(5), "5"}, {num(-12), "-12"}, {num(math.MinInt), "-9007199254740991"},
		{is(true), "true"}, {is(false), "false"}, {null(), "null"}, {undefined(), "undefined"}, {api.Value{Kind: 99}, "undefined"},
	} {
		for _, sort := range []string{"a", "\x80"} {
			most := strings.Repeat(sort, api.MaxBytes-len(x.text))
			makes(t, "+", words(most), x.v, joined(most+x.text))
			makes(t, "+", x.v, words(most), joined(x.text+most))
			makes(t, "+", words(most+sort), x.v, full())
			makes(t, "+", x.v, words(most+sort), full())
			makes(t, "+", words(most[1:]), x.v, joined(most[1:]+x.text))
		}
	}
	half := strings.Repeat("é", api.MaxBytes/4)
	makes(t, "+", words(half), words(half), joined(half+half))
	makes(t, "+", words(half+"a"), words(half), full())
	huge := strings.Repeat("a", 1<<24)
	makes(t, "+", words(huge), words(huge), full())
	makes(t, "+", words(huge), words(""), full())
	makes(t, "+", words(""), words(huge), full())
}

// orders holds the four ops at two values that are in an order: below 0 where a is less, 0 where neither is.
func orders(t *testing.T, a, b api.Value, order int) {
	t.Helper()
	makes(t, "<", a, b, truth(order < 0))
	makes(t, "<=", a, b, truth(order <= 0))
	makes(t, ">", a, b, truth(order > 0))
	makes(t, ">=", a, b, truth(order >= 0))
}

// P14.4: the order of two numbers; beyond an end they are that end.
func TestOrderOfNumbers(t *testing.T) {
	l := []int{-top, 1 - top, -1 << 32, -1 << 31, -2, -1, 0, 1, 2, 1 << 31, 1 << 32, top - 1, top}
	for i, a := range l {
		for j, b := range l {
			orders(t, num(a), num(b), i-j)
		}
	}
	orders(t, num(top), num(top+1), 0)
	orders(t, num(math.MaxInt), num(top), 0)
	orders(t, num(math.MaxInt), num(top-1), 1)
	orders(t, num(math.MinInt), num(-top), 0)
	orders(t, num(math.MinInt), num(1-top), -1)
	orders(t, num(math.MinInt), num(math.MaxInt), -1)
}

// P14.4: texts in their order, each less than those behind it: what ends first, then by runes of whatever many bytes.
func TestOrderOfTexts(t *testing.T) {
	l := []string{
		"", "\x00", "\x00\x00", "\x01", "10", "9", "A", "Z", "a", "a\x00", "aa", "aaa", "ab", "abc", "abcd", "ac", "aé", "aéa", "a€", "b", "z", "za", "\x7f", "\u0080", "é", "éa", "éé", "ê", "\u07ff", "\u0800", "€", "\ud7ff", "\ue000",
		"\uFFFD", "\uFFFDa", "\uFFFD\uFFFD", "\uFFFE", "\uFFFF", "\uFFFFa", "\U00010000", "\U0001f600", "\U0010ffff", "\U0010ffff\x00",
	}
	for i, a := range l {
		for j, b := range l {
			orders(t, words(a), words(b), i-j)
			orders(t, words("é"+a), words("é"+b), i-j)
			orders(t, words(a+"\U0001f600"), words(a+"\U0001f600"), 0)
		}
	}
}

// P14.4: of texts that are not UTF-8 each byte that begins no rune is api.Bad.
func TestOrderOfBadTexts(t *testing.T) {
	for _, x := range []struct {
		a, b  string
		order int
	}{
		{"\xff", "\xff", 0}, {"\xff", "\xfe", 0}, {"\xff", "\uFFFD", 0}, {"\uFFFD", "\x80", 0}, {"\xff\xff", "\uFFFD\xfe", 0}, {"a\xffb", "a\uFFFDb", 0},
		{"\xff", "\uFFFE", -1}, {"\xff", "\uFFFF", -1}, {"\xff", "\U00010000", -1}, {"\xff", "\U0001f600", -1}, {"\x80", "z", 1}, {"\x80", "é", 1}, {"\xc3", "é", 1}, {"\xc3", "\ue000", 1}, {"\xff", "", 1}, {"", "\xff", -1},
		{"\xff", "\xffa", -1}, {"\xff\xff", "\xff", 1}, {"\uFFFD", "\xff\xff", -1}, {"\xff\xff\xff", "\uFFFD", 1}, {"\uFFFD\uFFFD\uFFFD", "\xff\xff\xff\xff", -1}, {"\xffa", "\uFFFDb", -1}, {"\uFFFDb", "\xffa", 1}, {"\uFFFDa", "\xffa", 0},
		{"\xed\xa0\x80", "\uFFFD\uFFFD\uFFFD", 0}, {"\xf4\x90\x80\x80", "\uFFFD\uFFFD\uFFFD\uFFFD", 0}, {"\xe2\x82", "\uFFFD\uFFFD", 0}, {"\xe2\x82", "\u20ac", 1}, {"\xc0\x80", "\x00", 1}, {"\xc3a", "\uFFFDa", 0}, {"\xc3a", "é", 1},
	} {
		orders(t, words(x.a), words(x.b), x.order)
		orders(t, words(x.b), words(x.a), -x.order)
		orders(t, words("aé"+x.a), words("aé"+x.b), x.order)
	}
}

// P14.4: what the four ops throw of all but two numbers and two texts.
func TestOrderThrows(t *testing.T) {
	kinds := []api.Value{undefined(), null(), is(false), is(true), num(1), words("1"), ref(0), {Kind: 6, Num: 1, Text: "a"}}
	for _, op := range orderOps() {
		for _, a := range kinds {
			for _, b := range kinds {
				if a.Kind == b.Kind && (a.Kind == api.VNumber || a.Kind == api.VString) {
					continue
				}
				makes(t, op, a, b, thrown(noOrder))
			}
		}
	}
}

// W1: long texts are held against each other in a time to match.
func TestLongTexts(t *testing.T) {
	for _, s := range []string{"a", "é", "\xff", "\U0001f600"} {
		long := strings.Repeat(s, 1<<22)
		orders(t, words(long), words(strings.Clone(long)), 0)
		orders(t, words(long), words(long+"a"), -1)
		orders(t, words(long+"b"), words(long+"a"), 1)
		makes(t, "===", words(long+"b"), words(long+"b"), truth(true))
		makes(t, "===", words(long+"b"), words(long+"a"), truth(false))
	}
}
