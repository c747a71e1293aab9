package kinds_test

import (
	"slices"
	"strings"
	"testing"

	"shuck/api"
	"shuck/kinds"
)

// unions holds rows of texts, `; ` between, against what their union is.
func unions(t *testing.T, rows map[string]string) {
	t.Helper()
	for parts, want := range rows {
		p := begin(t)
		ids := p.lay(all(parts)...)
		n, e := p.union(ids...)
		p.is("Union "+parts, n, e, of(want))
		slices.Reverse(ids)
		again, e := p.union(ids...)
		if again != n || e != api.OK {
			t.Errorf("%s, from behind: %s", parts, p.a.Text(again))
		}
		if s := union(all(parts)...).words(); s != want {
			t.Errorf("the slow union of %s is %s, not %s", parts, s, want)
		}
	}
}

// P8.2: any takes all; then unknown does.
func TestUnionTop(t *testing.T) {
	unions(t, map[string]string{
		"any": "any", "any; any": "any", "number; any; string": "any", "unknown; any": "any", "any; unknown; never": "any", "any; 1 | 2": "any",
		"unknown": "unknown", "unknown; number": "unknown", "never; unknown": "unknown", "1; unknown; unknown; E@1": "unknown", "undefined; null | number; unknown": "unknown",
		"number; any[]": "any[] | number", "any[]; unknown[]": "any[] | unknown[]", "{a: any}; unknown[]": "unknown[] | {a: any}", "() => any; () => unknown": "(() => any) | (() => unknown)", "I#1<any>; number": "I#1<any> | number",
	})
}

// P8.2: never goes; each stands once; none left: never; one: that one.
func TestUnionFew(t *testing.T) {
	unions(t, map[string]string{
		"": "never", "never": "never", "never; never": "never", "never; undefined": "undefined", "number": "number", "number; number": "number", "1; never; 1": "1",
		"() => void": "() => void", "() => void; () => void": "() => void", "never; never[]": "never[]", "void; undefined; void; null": "null | undefined | void",
		"{a: number}; {a: number}; {a?: number}": "{a: number} | {a?: number}", "T'1; T'1; T'2": "T'1 | T'2", "number[]; 1": "1 | number[]",
	})
}

// P8.2: the Parts of unions among them stand for these.
func TestUnionOfUnions(t *testing.T) {
	unions(t, map[string]string{
		"1 | 2; 2 | 3": "1 | 2 | 3", "1 | 2": "1 | 2", "1 | 2; 1 | 2": "1 | 2", "1 | 2; never": "1 | 2", "1 | 2; 1": "1 | 2", "1 | 2; number": "number", "1 | null; number": "null | number", "1 | null; number | string; \"a\"": "null | number | string",
		"false | true; true": "false | true", "(1 | 2)[]; 1 | 2": "(1 | 2)[] | 1 | 2", "E@1.A | E@1.B; E@1 | null": "E@1 | null", "(() => void) | null; () => void": "(() => void) | null",
	})
}

// P8.2: what number, string and an enum have in them goes beside these; but not beside what only has them in it.
func TestUnionWider(t *testing.T) {
	unions(t, map[string]string{
		"number; 1": "number", "1; 2; number; -3": "number", "number; \"1\"": `"1" | number`, "1; string": "1 | string", "string; \"a\"": "string", "\"a\"; \"\"; string; 1; number": "number | string",
		"1; \"a\"": `"a" | 1`, "1; number[]": "1 | number[]", "number; 1[]": "1[] | number", "1; {a: number}": "1 | {a: number}", "true; false; number": "false | number | true",
		"E@1; E@1.A": "E@1", "E@1.A; E@1.B": "E@1.A | E@1.B", "E@1.A; E@1; E@1.B": "E@1", "E@2; E@1.A": "E@1.A | E@2", "E@1; E@2.A; E@1.A; E@2.B": "E@1 | E@2.A | E@2.B", "F@1; E@1.A": "E@1.A | F@1", "E@1.A; number; string": "E@1.A | number | string", "E@1; 1; number": "E@1 | number", "E@1.A; enum E#1": "E@1.A | enum E#1", "E@1.A; E@1[]": "E@1.A | E@1[]",
	})
}

// P8.2: each number that is none, wherever it stands; it is told ahead of all else.
func TestUnionNone(t *testing.T) {
	p := begin(t)
	u := p.id("1 | 2")
	for _, id := range []int{-1, p.a.Len(), 1 << 62, -1 << 63} {
		for _, ids := range [][]int{{id}, {0, id}, {id, 0}, {1, id, 2}, {u, u, id}, {id, id}} {
			n, e := p.union(ids...)
			p.refused("no number", n, e, api.ErrNone)
		}
	}
	var large []int
	for i := range 600 {
		large = append(large, p.layOne(numIs(i)))
	}
	n, e := p.a.Union(append(large, -1))
	p.refused("too large, and no number", n, e, api.ErrNone)
}

// P8.2: lists of any length end: what stands in them often is looked at once.
func TestLongUnions(t *testing.T) {
	a := kinds.New()
	var cases []int
	for i := range 400 {
		n, _ := a.Find(api.Type{Kind: api.KNumIs, Num: i})
		cases = append(cases, n)
	}
	u, e := a.Union(cases)
	if e != api.OK {
		t.Fatal(e)
	}
	long := slices.Repeat([]int{u, 2, cases[7]}, 300000)
	if n, e := a.Union(long); n != u || e != api.OK {
		t.Error(n, e)
	}
	if n, e := a.Union(append(long, 6)); n != 6 || e != api.OK {
		t.Error(n, e)
	}
	if n, e := a.Union(append(long, 0)); n != 0 || e != api.OK {
		t.Error(n, e)
	}
}

// The chapter's examples.
func TestExamples(t *testing.T) {
	p := begin(t)
	text := func(n int, e api.Errno, want string) int {
		t.Helper()
		if s := p.a.Text(n); s != want || e != api.OK {
			t.Errorf("%s, %v, not %s", s, e, want)
		}
		return n
	}
	n, e := p.union(9, 8)
	u := text(n, e, "false | true")
	one, e := p.find(api.Type{Kind: api.KNumIs, Num: 1})
	text(one, e, "1")
	if again, e := p.find(api.Type{Kind: api.KNumIs, Num: 1}); again != one || e != api.OK {
		t.Error(again, e)
	}
	n, e = p.union(6, one)
	if text(n, e, "number") != 6 {
		t.Error(n)
	}
	n, e = p.union()
	if text(n, e, "never") != 2 {
		t.Error(n)
	}
	n, e = p.union(2, 4)
	if text(n, e, "undefined") != 4 {
		t.Error(n)
	}
	n, e = p.find(api.Type{Kind: api.KArray, Parts: []int{u}})
	text(n, e, "(false | true)[]")
	n, e = p.find(api.Type{Kind: api.KFunc, Parts: []int{6, 7, 3}, Marks: []bool{false, true}})
	text(n, e, "(number, string?) => void")
	n, e = p.find(api.Type{Kind: api.KUnion, Parts: []int{8, 9}})
	p.refused("Find a KUnion", n, e, api.ErrArg)
	n, e = p.find(api.Type{Kind: api.KArray, Parts: []int{99}})
	p.refused("Find with a Part 99", n, e, api.ErrArg)
	x, e := p.find(api.Type{Kind: api.KStrIs, Text: "x"})
	text(x, e, `"x"`)
	n, e = p.union(one, x)
	both := text(n, e, `"x" | 1`)
	n, e = p.find(api.Type{Kind: api.KObject, Names: []string{"a"}, Parts: []int{both}, Marks: []bool{false}})
	text(n, e, `{a: "x" | 1}`)
	n, e = p.widen(n)
	text(n, e, "{a: number | string}")
}

// P8.2: a union of many goes up to the last byte by their texts.
func TestUnionOfAll(t *testing.T) {
	p := begin(t)
	var l []shape
	for _, s := range ofEachKind {
		if !strings.Contains("any unknown", s) {
			l = append(l, of(s))
		}
	}
	n, e := p.union(p.lay(l...)...)
	p.is("all", n, e, union(l...))
}
