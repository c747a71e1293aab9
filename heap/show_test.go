package heap_test

import (
	"math"
	"strconv"
	"strings"
	"testing"

	"shuck/api"
	"shuck/heap"
)

// P15.9: each kind alone, and within an array and an object.
func TestShowEach(t *testing.T) {
	b := begin(t, 300)
	o, l := b.lay(api.CObject, -1), b.lay(api.CArray, -1)
	f, c := b.lay(api.CFunction, o.Num), b.lay(api.CClass, -1)
	for _, v := range []api.Value{f, c} {
		b.gives(set(v, "a", num(1)), done()) // members that Show does not tell
	}
	for _, x := range []struct {
		v             api.Value
		alone, within string
	}{
		{undefined(), "undefined", "undefined"}, {null(), "null", "null"}, {yes(), "true", "true"}, {no(), "false", "false"},
		{num(0), "0", "0"}, {num(-12), "-12", "-12"}, {num(math.MaxInt), "9007199254740991", "9007199254740991"}, {num(math.MinInt), "-9007199254740991", "-9007199254740991"},
		{words(""), "", `""`}, {words("a"), "a", `"a"`}, {words("a\"b\\\n\r\t\x00\x1f\x7fé"), "a\"b\\\n\r\t\x00\x1f\x7fé", `"a\"b\\\n\r\t\u{0}\u{1f}\u{7f}é"`}, {words("\xff"), "\xff", "\"\uFFFD\""}, {words("..."), "...", `"..."`}, {words("undefined"), "undefined", `"undefined"`},
		{o, "{}", "{}"}, {l, "[]", "[]"}, {f, "function", "function"}, {c, "class", "class"},
		{ref(-1), "undefined", "undefined"}, {ref(1 << 40), "undefined", "undefined"}, {api.Value{Kind: 9, Text: "a"}, "undefined", "undefined"}, {api.Value{Kind: api.VBool, Num: 5}, "true", "true"}, {api.Value{Kind: api.VRef, Num: f.Num, Text: "a"}, "function", "function"},
	} {
		b.gives(show(x.v), says(x.alone))
		b.gives(show(b.list(x.v)), says("["+x.within+"]"))
		b.gives(show(b.list(x.v, num(1), x.v)), says("["+x.within+", 1, "+x.within+"]"))
		b.gives(show(b.thing(api.CObject, -1, member{"k", x.v})), says("{k: "+x.within+"}"))
	}
}

// P15.9: members in the order in which they were first set, with their keys as they are.
func TestShowInOrder(t *testing.T) {
	b := begin(t, 100)
	o := b.lay(api.CObject, -1)
	for i, key := range []string{"z", "a", "m", "10", "9", ""} {
		b.gives(set(o, key, num(i)), done())
	}
	b.gives(show(o), says("{z: 0, a: 1, m: 2, 10: 3, 9: 4, : 5}"))
	b.gives(set(o, "a", words("again")), done())
	b.gives(set(o, "", undefined()), done())
	b.gives(set(o, "b", null()), done())
	b.gives(show(o), says(`{z: 0, a: "again", m: 2, 10: 3, 9: 4, : undefined, b: null}`))
	odd := b.thing(api.CObject, -1, member{"\xff", num(1)}, member{"a\nb", num(2)}, member{`"`, num(3)}, member{"k: 1, l", num(4)}, member{"é\x00", num(5)})
	b.gives(show(odd), says("{\xff: 1, a\nb: 2, \": 3, k: 1, l: 4, é\x00: 5}"))
}

// P15.9: what stands within three others is cut, if it is an array or an object.
func TestShowDeep(t *testing.T) {
	b := begin(t, 100)
	empty := []api.Value{b.lay(api.CObject, -1), b.lay(api.CArray, -1), b.lay(api.CFunction, -1), b.lay(api.CClass, -1), num(1), words("a")}
	whole := []string{"{}", "[]", "function", "class", "1", `"a"`}
	cut := []string{"...", "...", "function", "class", "1", `"a"`}
	one := b.list(empty...)
	two := b.thing(api.CObject, -1, member{"k", one})
	three := b.list(two, num(3))
	four := b.thing(api.CObject, -1, member{"l", three}, member{"m", empty[2]})
	five := b.list(four)
	b.gives(show(one), says("["+strings.Join(whole, ", ")+"]"))
	b.gives(show(two), says("{k: ["+strings.Join(whole, ", ")+"]}"))
	b.gives(show(three), says("[{k: ["+strings.Join(cut, ", ")+"]}, 3]"))
	b.gives(show(four), says("{l: [{k: ...}, 3], m: function}"))
	b.gives(show(five), says("[{l: [..., 3], m: function}]"))
	b.gives(show(b.list(five)), says("[[{l: ..., m: function}]]"))
}

// P15.9: within a function and a class nothing is told, so nothing stands deeper for them.
func TestShowOfFunctionsIsShut(t *testing.T) {
	b := begin(t, 100)
	f, c := b.lay(api.CFunction, -1), b.lay(api.CClass, -1)
	for _, v := range []api.Value{f, c} {
		b.gives(set(v, "self", v), done())
		b.gives(set(v, "list", b.list(v)), done())
	}
	b.gives(show(f), says("function"))
	b.gives(show(b.list(f, c)), says("[function, class]"))
}

// P15.9: things that stand within themselves, and within each other.
func TestShowRound(t *testing.T) {
	b := begin(t, 100)
	l := b.list(num(1))
	b.gives(push(l.Num, l), count(2))
	b.gives(show(l), says("[1, [1, [1, ...]]]"))
	b.gives(put(l, num(0), l), done())
	b.gives(show(l), says("[[[..., ...], [..., ...]], [[..., ...], [..., ...]]]"))
	o := b.lay(api.CObject, -1)
	b.gives(set(o, "me", o), done())
	b.gives(show(o), says("{me: {me: {me: ...}}}"))
	x, y := b.lay(api.CObject, o.Num), b.lay(api.CArray, -1)
	b.gives(set(x, "y", y), done())
	b.gives(push(y.Num, x), count(1))
	b.gives(show(x), says("{y: [{y: ...}]}"))
	b.gives(show(y), says("[{y: [...]}]"))
}

// P15.9: a thing that stands at several places of another is told at each.
func TestShowTwice(t *testing.T) {
	b := begin(t, 100)
	l := b.list(num(1))
	o := b.thing(api.CObject, -1, member{"a", l}, member{"b", l})
	b.gives(show(b.list(o, l, o)), says("[{a: [1], b: [1]}, [1], {a: [1], b: [1]}]"))
}

// long is a way in which a text grows long: what is laid of a filling, and a piece of it that is told in so many bytes.
type long struct {
	lay   func(b *bench, filling string) api.Value
	piece string
	bytes int
}

func longOnes() map[string]long {
	inList := func(b *bench, s string) api.Value { return b.list(words(s)) }
	asKey := func(b *bench, s string) api.Value { return b.thing(api.CObject, -1, member{s, num(1)}) }
	return map[string]long{
		"a text":                          {inList, "a", 1},
		"a text that is quoted":           {inList, "\n", 2},
		"a text of no runes":              {inList, "\xff", 3},
		"a text that is quoted at length": {inList, "\x1f", 6},
		"a key":                           {asKey, "a", 1},
		"a key that would be quoted":      {asKey, "\n", 1},
		"a key of no runes":               {asKey, "\xff", 1},
		"a member": {func(b *bench, s string) api.Value {
			return b.thing(api.CObject, -1, member{"k", num(1)}, member{"l", words(s)})
		}, "a", 1},
		"deep": {func(b *bench, s string) api.Value {
			return b.list(b.thing(api.CObject, -1, member{"k", b.list(words(s))}))
		}, "a", 1},
		"ahead of what is cut": {func(b *bench, s string) api.Value { return b.list(b.list(b.list(words(s), b.list(num(1), num(2))))) }, "a", 1},
		"ahead of a function":  {func(b *bench, s string) api.Value { return b.list(words(s), b.lay(api.CFunction, -1)) }, "a", 1},
		"behind others": {func(b *bench, s string) api.Value {
			return b.list(b.list(), num(-7), words(strings.Repeat("b", api.MaxBytes/2)), words(s))
		}, "a", 1},
		"several things": {func(b *bench, s string) api.Value {
			half := b.list(words(strings.Repeat("b", api.MaxBytes/2)))
			return b.list(half, b.list(words(s)), b.list())
		}, "a", 1},
	}
}

// P15.9: MaxBytes bytes are told, one more is not, in whatever way they come together.
func TestShowLong(t *testing.T) {
	for name, x := range longOnes() {
		b := begin(t, 99)
		least := len(b.do(show(x.lay(b, ""))).text)
		for _, more := range []int{-1, 0, 1, 6} {
			b := begin(t, 99)
			n := api.MaxBytes - least + more
			v := x.lay(b, strings.Repeat(x.piece, n/x.bytes)+strings.Repeat("a", n%x.bytes))
			got := b.do(show(v)).text
			if more > 0 && got != "..." || more <= 0 && len(got) != api.MaxBytes+more {
				t.Errorf("%s: of %d more %d bytes: %s", name, more, len(got), short(got))
			}
		}
	}
}

// P15.9: a text alone is told whatever its length; within another thing it is not.
func TestShowLongText(t *testing.T) {
	for _, n := range []int{api.MaxBytes - 4, api.MaxBytes - 3, api.MaxBytes, api.MaxBytes + 1, 5 * api.MaxBytes} {
		for _, sort := range []string{"a", "\xff"} {
			s := strings.Repeat(sort, n)
			b := begin(t, 9)
			b.gives(show(words(s)), says(s))
			want := "..."
			if n == api.MaxBytes-4 && sort == "a" {
				want = `["` + s + `"]`
			}
			b.gives(show(b.list(words(s))), says(want))
		}
	}
}

// P15.9: of a part that has MaxBytes bytes, or one more, the whole has more, and is cut as a whole; where the part is cut, or not told, it does not count.
func TestShowLongPart(t *testing.T) {
	for _, n := range []int{api.MaxBytes, api.MaxBytes + 1} {
		b := begin(t, 99)
		part := b.list(words(strings.Repeat("a", n-4)))
		if n == api.MaxBytes {
			b.gives(show(part), says(`["`+strings.Repeat("a", n-4)+`"]`))
		} else {
			b.gives(show(part), says("..."))
		}
		b.gives(show(b.list(part)), says("..."))
		b.gives(show(b.list(num(1), part, num(2))), says("..."))
		b.gives(show(b.thing(api.CObject, -1, member{"k", part})), says("..."))
		two := b.list(b.list(part))
		b.gives(show(two), says("..."))
		b.gives(show(b.list(two)), says("[[[...]]]"))
		f := b.thing(api.CFunction, -1, member{"k", part})
		b.gives(show(b.list(f)), says("[function]"))
	}
}

// P15.9: many small parts, up to MaxBytes bytes and beyond.
func TestShowMany(t *testing.T) {
	h, _ := heap.New(api.MaxCells)
	n, _ := h.Make(api.CArray, -1)
	h.Push(n, num(10))
	want := "[10"
	for len(want) < api.MaxBytes-1 {
		want += ", 1"
		h.Push(n, num(1))
	}
	if got := h.Show(ref(n)); got != want+"]" || len(got) != api.MaxBytes {
		t.Errorf("%d bytes: %s", len(got), short(got))
	}
	h.Put(ref(n), num(5), num(-1))
	if got := h.Show(ref(n)); got != "..." {
		t.Errorf("%d bytes: %s", len(got), short(got))
	}
	h.Put(ref(n), num(0), num(0))
	if got := h.Show(ref(n)); len(got) != api.MaxBytes {
		t.Errorf("%d bytes: %s", len(got), short(got))
	}
}

// P15.9 (W1): Show ends where all that there is would be far too much: things that stand within themselves very often, and long texts at many places.
func TestShowEnds(t *testing.T) {
	h, _ := heap.New(api.MaxCells)
	l, _ := h.Make(api.CArray, -1)
	o, _ := h.Make(api.CObject, -1)
	texts, _ := h.Make(api.CArray, -1)
	h.Push(texts, words(strings.Repeat("\x01", 1<<26)))
	for i := range 100_000 {
		h.Push(l, ref([]int{l, o}[i%2]))
		h.Set(ref(o), strconv.Itoa(i), ref(l))
		h.Push(texts, ref(texts))
	}
	for range 20 {
		for _, n := range []int{l, o, texts} {
			if s := h.Show(ref(n)); s != "..." {
				t.Errorf("%d bytes: %s", len(s), short(s))
			}
		}
	}
}
