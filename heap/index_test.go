package heap_test

import (
	"math"
	"strings"
	"testing"

	"shuck/api"
)

// noIndexes are values that are neither a number nor a text, where there are fewer than 50 things.
func noIndexes() []api.Value {
	return append(nothings(), no(), yes(), ref(0), ref(1), api.Value{Kind: api.VBool, Num: 3, Text: "a"})
}

// farNumbers are numbers at which no array and no text here has a value.
func farNumbers() []int {
	return []int{-1, -2, -1 << 31, -1 << 32, -api.MaxNumber, -api.MaxNumber - 1, math.MinInt, 1 << 31, 1 << 32, 1<<32 + 1, api.MaxNumber, api.MaxNumber + 1, math.MaxInt}
}

// P15.5: undefined and null throw, whatever the index.
func TestAtOfNothing(t *testing.T) {
	b := protos(t)
	for _, v := range nothings() {
		for _, index := range append(append(noIndexes(), plains()...), num(0)) {
			b.gives(at(v, index), throws(noMembers))
		}
	}
}

// P15.5: what is neither a number nor a text throws as an index, of each kind of value.
func TestAtThrows(t *testing.T) {
	b := protos(t)
	for _, v := range append(plains(), ref(0), ref(1), ref(2), ref(3)) {
		for _, index := range noIndexes() {
			b.gives(at(v, index), throws(noIndex))
		}
	}
}

// P15.5: of an array the value of a number.
func TestAtOfArray(t *testing.T) {
	b := begin(t, 40)
	o := b.lay(api.CObject, -1)
	values := append(plains(), undefined(), null(), o)
	l := b.list(values...)
	for i, v := range values {
		b.gives(at(l, num(i)), told(v))
	}
	for _, n := range append(farNumbers(), len(values), len(values)+1) {
		b.gives(at(l, num(n)), told(undefined()))
	}
	b.gives(at(b.list(), num(0)), told(undefined()))
}

// P15.5: of a text the rune of a number, as a text.
func TestAtOfText(t *testing.T) {
	b := begin(t, 1)
	for s, l := range map[string][]string{
		"":               nil,
		"a":              {"a"},
		"abc":            {"a", "b", "c"},
		"aé€\U0001f600b": {"a", "é", "€", "\U0001f600", "b"},
		"\U0001f600é":    {"\U0001f600", "é"},
		"e\u0301":        {"e", "\u0301"},
		"\x00\n":         {"\x00", "\n"},
		"a\xffb":         {"a", "\uFFFD", "b"},
		"\xff\xfe":       {"\uFFFD", "\uFFFD"},
		"\uFFFD":         {"\uFFFD"},
		"\xc3":           {"\uFFFD"},
		"\xc3é":          {"\uFFFD", "é"},
		"\xe2\x82a":      {"\uFFFD", "\uFFFD", "a"},
		"\xed\xa0\x80":   {"\uFFFD", "\uFFFD", "\uFFFD"},
		"\xc0\x80é":      {"\uFFFD", "\uFFFD", "é"},
	} {
		for i, r := range l {
			b.gives(at(words(s), num(i)), told(words(r)))
		}
		for _, n := range append(farNumbers(), len(l), len(l)+1) {
			b.gives(at(words(s), num(n)), told(undefined()))
		}
		b.gives(at(words(s), words("length")), told(num(len(l))))
	}
	long := strings.Repeat("é", 3*api.MaxBytes) + "z"
	b.gives(at(words(long), num(3*api.MaxBytes)), told(words("z")))
	b.gives(at(words(long), num(3*api.MaxBytes+1)), told(undefined()))
}

// P15.5: of others a number tells undefined, also where there is a member of these digits.
func TestAtOfOthers(t *testing.T) {
	b := begin(t, 40)
	things := []api.Value{b.lay(api.CObject, -1), b.lay(api.CFunction, -1), b.lay(api.CClass, -1)}
	for _, v := range things {
		b.gives(set(v, "0", num(7)), done())
	}
	for _, v := range append(things, no(), yes(), num(0), num(123)) {
		for _, n := range append(farNumbers(), 0, 1) {
			b.gives(at(v, num(n)), told(undefined()))
		}
	}
	b.gives(at(things[0], words("0")), told(num(7)))
}

// P15.5: with a text At is Get.
func TestAtIsGet(t *testing.T) {
	b := protos(t)
	for _, v := range append(append(plains(), nothings()...), ref(0), ref(1), ref(2), ref(3)) {
		for _, key := range append(someKeys(), "x") {
			b.gives(at(v, words(key)), b.do(get(v, key)))
		}
	}
	b.gives(at(ref(1), words("length")), told(num(0)))
	b.gives(at(ref(1), words("0")), told(undefined()))
	b.gives(at(ref(0), words("x")), told(num(api.CObject)))
}

// P15.6: of an array a number below its length is set, its length itself is laid.
func TestPutOfArray(t *testing.T) {
	b := begin(t, 60)
	l := b.lay(api.CArray, -1)
	for n, v := range append(plains(), undefined(), null(), l) {
		for _, far := range append(farNumbers(), n+1, n+2) {
			b.gives(put(l, num(far), v), throws(noIndex))
		}
		b.gives(lenOf(l.Num), count(n))
		b.gives(put(l, num(n), v), done())
		b.gives(at(l, num(n)), told(v))
		b.gives(lenOf(l.Num), count(n+1))
		b.gives(used(), count(n+2))
		for i := range n + 1 {
			b.gives(put(l, num(i), num(100+i)), done())
			b.gives(at(l, num(i)), told(num(100+i)))
		}
		b.gives(used(), count(n+2))
	}
}

// P15.6: with a text Put is Set: of an array too, which throws then as Set does.
func TestPutIsSet(t *testing.T) {
	b := protos(t)
	for _, key := range append(someKeys(), "x") {
		for _, n := range []int{0, 2, 3} {
			b.gives(put(ref(n), words(key), num(n)), done())
			b.gives(get(ref(n), key), told(num(n)))
		}
		for _, v := range append(append(plains(), nothings()...), ref(1)) {
			b.gives(put(v, words(key), num(1)), throws(noMembers))
		}
	}
	b.gives(lenOf(1), count(0))
}

// P15.6: all others throw, and change nothing: with a number what is no array, and whatever with another index.
func TestPutThrows(t *testing.T) {
	b := protos(t)
	all := append(append(plains(), nothings()...), ref(0), ref(2), ref(3))
	for _, v := range all {
		for _, n := range append(farNumbers(), 0, 1) {
			b.gives(put(v, num(n), num(1)), throws(noIndex))
		}
	}
	for _, v := range append(all, ref(1)) {
		for _, index := range noIndexes() {
			b.gives(put(v, index, num(1)), throws(noIndex))
		}
	}
}

// P15.7: Push lays behind the last one, and tells the new length; Len how many there are.
func TestPush(t *testing.T) {
	b := begin(t, 60)
	l := b.lay(api.CArray, -1)
	for n, v := range append(plains(), undefined(), null(), l) {
		b.gives(lenOf(l.Num), count(n))
		b.gives(push(l.Num, v), count(n+1))
		b.gives(at(l, num(n)), told(v))
		b.gives(at(l, num(n+1)), told(undefined()))
		b.gives(used(), count(n+2))
	}
}

// P15.7: of no array Push throws, and Len is 0.
func TestPushOfNoArray(t *testing.T) {
	b := protos(t)
	for _, n := range append(farNumbers(), 0, 2, 3, 4) {
		b.gives(push(n, num(1)), noNumber(api.FaultThrow))
		b.gives(lenOf(n), count(0))
	}
	b.gives(used(), count(7))
}
