package kinds_test

import (
	"testing"

	"shuck/api"
)

// P8.5: each kind of value, through KUnion, KArray and KObject, not through KFunc and KRef.
func TestWiden(t *testing.T) {
	for from, want := range map[string]string{
		"1": "number", "-1": "number", `""`: "string", `"x"`: "string", "true": "false | true", "false": "false | true", "E@1.A": "E@1",
		"any": "any", "unknown": "unknown", "never": "never", "void": "void", "undefined": "undefined", "null": "null", "number": "number", "string": "string",
		"T'1": "T'1", "E@1": "E@1", "class C#1": "class C#1", "enum E#1": "enum E#1", "namespace N#1": "namespace N#1", "I#1": "I#1", "{}": "{}",
		"1[]": "number[]", "true[]": "(false | true)[]", `"x"[][]`: "string[][]", "E@1.A[]": "E@1[]", "number[]": "number[]",
		"{a: 1; b?: true; c: E@1.A}": "{a: number; b?: false | true; c: E@1}", "{a: {b: {c: 1}}}": "{a: {b: {c: number}}}", `{a: "x" | 1}`: "{a: number | string}",
		"1 | 2": "number", `1 | "x"`: "number | string", "1 | null": "null | number", "null | true": "false | null | true", "false | true": "false | true", "E@1.A | E@1.B": "E@1", "E@1.A | E@2.A": "E@1 | E@2", "E@1.A | number": "E@1 | number", "1[] | 2[]": "number[]", "1 | 2[] | number[]": "number | number[]", "{a: 1} | {a: 2}": "{a: number}",
		"() => 1": "() => 1", "(1, true?) => E@1.A": "(1, true?) => E@1.A", "(() => 1)[]": "(() => 1)[]", "{a: () => 1}": "{a: () => 1}", "(() => 1) | 1": "(() => 1) | number", "() => {a: 1}[]": "() => {a: 1}[]",
		"I#1<1>": "I#1<1>", "I#1<true>[]": "I#1<true>[]", "{a: I#1<{a: 1}>}": "{a: I#1<{a: 1}>}", "I#1<1> | 2": "I#1<1> | number",
		`{a: (1 | true)[]; b: {c?: "x" | null}}`: "{a: (false | number | true)[]; b: {c?: null | string}}",
	} {
		p := begin(t)
		n, e := p.widen(p.id(from))
		p.is("Widen "+from, n, e, of(want))
		if s := of(from).widen().words(); s != want {
			t.Errorf("the slow one of %s: %s, not %s", from, s, want)
		}
		// P8.8: what Widen makes stays.
		if again, e := p.widen(n); again != n || e != api.OK {
			t.Errorf("%s: %s, then %s, %v", from, want, p.a.Text(again), e)
		}
	}
}

// P8.5: numbers that are none.
func TestWidenNone(t *testing.T) {
	p := begin(t)
	for _, id := range []int{-1, p.a.Len(), 1 << 62, -1 << 63} {
		n, e := p.widen(id)
		p.refused("no number", n, e, api.ErrNone)
	}
}
