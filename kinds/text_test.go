package kinds_test

import (
	"testing"

	"shuck/api"
)

// P8.3: texts of types within types: where parentheses stand, and where not.
func TestTexts(t *testing.T) {
	p := begin(t)
	for _, s := range []string{
		"(() => void)[]", "(() => void)[][]", "(false | true)[]", "() => void[]", "(() => void[])[]", "{}[]", "E@7.A[]", "class C#7[]", "-1[]", `"x"[]`, "I#7<number>[]", "T'7[]",
		"{a: () => void}", "{a?: () => void; b: false | true}", "{a: {b: {c: number}}}", "{a?: number[]; b?: string}",
		"(() => void) => void", "(() => void, number) => void", "((() => void)?) => void", "(number, (() => void)?) => void",
		"(false | true) => void", "((false | true)?) => void", "(false | true, (false | true)?) => void", "((() => void)[]?) => void", "(number?, string?) => void", "({}?) => void",
		"() => () => void", "() => false | true", "(() => void) | null", "(() => false | true) | null", "() => (() => void) | null", "((() => void) => void) | null",
		"I#7<() => void>", "I#7<false | true>", "I#7<() => void, false | true>", "I#7<I#8<T'9>>",
		"E@7.A | E@7.B", "E@7 | E@8.B", "class C#7 | enum E#7 | namespace N#7",
	} {
		n, e := p.find(p.typeOf(of("{x: " + s + "}")))
		p.is(s, n, e, of("{x: "+s+"}"))
		if got := p.a.Text(p.id(s)); got != s {
			t.Errorf("%s, not %s", got, s)
		}
	}
}

// P8.3: a union's texts rise byte by byte, a KFunc's with its parentheses; At's Parts are in that order.
func TestUnionOrder(t *testing.T) {
	for text, parts := range map[string][]string{
		"false | true":        {"true", "false"},
		"-1 | 0 | 1 | 10 | 2": {"2", "10", "1", "0", "-1"},
		`"a" | "b" | (() => void) | (0 | 1)[] | -1 | 5 | A#1 | T'1 | a'1 | null | {a: number}`: {"{a: number}", "null", "a'1", "T'1", "A#1", "5", "-1", "(0 | 1)[]", "() => void", `"b"`, `"a"`},
		// Without their parentheses these would be the other way round.
		"(() => null | void) | (() => null)": {"() => null", "() => null | void"},
		"((number) => void) | (0 | 1)[]":     {"(0 | 1)[]", "(number) => void"},

		"(() => void) | (() => void)[]":                               {"(() => void)[]", "() => void"},
		"A@1 | A@10 | A@1[]":                                          {"A@10", "A@1[]", "A@1"},
		"E@1.A | E@1.B | E@2":                                         {"E@2", "E@1.B", "E@1.A"},
		"class C#1 | enum C#1 | namespace C#1":                        {"namespace C#1", "enum C#1", "class C#1"},
		"{a: number} | {a: string} | {a?: number} | {b: number} | {}": {"{}", "{b: number}", "{a?: number}", "{a: string}", "{a: number}"},
		`"" | "\"" | "z" | "é" | null | number | undefined | void`:    {"void", "undefined", "number", "null", `"é"`, `"z"`, `"\""`, `""`},
		"I#1 | I#10 | I#1<I#1>":                                       {"I#1<I#1>", "I#10", "I#1"},
	} {
		p := begin(t)
		var ids []int
		for _, s := range parts {
			ids = append(ids, p.id(s))
		}
		n, e := p.union(ids...)
		if got := p.a.Text(n); got != text || e != api.OK {
			t.Errorf("%s, %v, not %s", got, e, text)
		}
		x, e := p.a.At(n)
		if e != api.OK || x.Kind != api.KUnion || x.Num != 0 || x.Text != "" || len(x.Parts) != len(parts) || len(x.Names)+len(x.Marks) != 0 {
			t.Fatal(x, e)
		}
		s := ""
		for i, id := range x.Parts {
			if i > 0 {
				s += " | "
			}
			if p.known[id].is.Kind == api.KFunc {
				s += "(" + p.a.Text(id) + ")"
			} else {
				s += p.a.Text(id)
			}
		}
		if s != text {
			t.Errorf("the Parts are %s, not %s", s, text)
		}
	}
}

// P8.3: numbers that are none.
func TestNoNumber(t *testing.T) {
	p := begin(t)
	p.id("{a: number | string}")
	for _, id := range []int{-1, p.a.Len(), p.a.Len() + 1, 1 << 62, -1 << 63} {
		x, e := p.a.At(id)
		if e != api.ErrNone || !sameType(x, api.Type{}) {
			t.Error(id, x, e)
		}
		if s := p.a.Text(id); s != "" {
			t.Error(id, s)
		}
	}
	p.look()
}

// P8.3: Len is how many there are: what is there is not laid once more, and what is refused is not laid.
func TestLen(t *testing.T) {
	p := begin(t)
	for _, step := range []struct {
		text string
		len  int
	}{{"number", 10}, {"1", 11}, {"1", 11}, {"number[]", 12}, {"1 | string", 13}, {"string | 1", 13}, {"{a: 2}", 15}, {"{a: 1 | string}", 16}} {
		p.id(step.text)
		if n := p.a.Len(); n != step.len {
			t.Errorf("%s: %d, not %d", step.text, n, step.len)
		}
	}
	p.find(api.Type{Kind: api.KArray, Parts: []int{99}})
	p.union(1, -1)
	if n := p.a.Len(); n != 16 {
		t.Error(n)
	}
}
