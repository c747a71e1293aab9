package kinds_test

import (
	"strings"
	"testing"

	"shuck/api"
	"shuck/kinds"
)

var number = bare(api.KNumber)

// upTo is a shape of just that size.
func upTo(n int) shape { return arrays(n-1, number) }

// nums is so many KNumIs.
func nums(n int) []shape {
	var l []shape
	for i := range n {
		l = append(l, numIs(i))
	}
	return l
}

// sized fails, unless an answer is a type of that shape, which has MaxSize; or, of a greater one, ErrComplex.
func (p *probe) sized(what string, n int, e api.Errno, want shape, size int) {
	p.Helper()
	if want.size() != size {
		p.Fatalf("%s: the size is %d, not %d", what, want.size(), size)
	}
	p.is(what, n, e, want)
}

// Find: sizes at MaxSize and one above, of each kind that has Parts.
func TestSizeOfFind(t *testing.T) {
	p := begin(t)
	for _, size := range []int{api.MaxSize - 1, api.MaxSize, api.MaxSize + 1} {
		for _, s := range []shape{
			array(upTo(size - 1)),
			object(upTo(size - 1)),
			object(upTo(size/2), upTo(size-1-size/2)),
			object(times(size-1, number)...),
			declared(api.KRef, 1, "I", upTo(size-1)),
			declared(api.KRef, 1, "I", times(size-1, number)...),
			{kind: api.KFunc, parts: []shape{upTo(size - 1)}},
			{kind: api.KFunc, parts: times(size-1, number), marks: make([]bool, size-2)},
			object(append(times(3, of("E@1.A")), upTo(size-7))...),
		} {
			n, e := p.find(p.typeOf(s))
			p.sized("Find", n, e, s, size)
		}
	}
	n, e := p.find(api.Type{Kind: api.KObject, Names: []string{"a", "b"}, Parts: []int{p.layOne(upTo(400)), p.layOne(upTo(400))}, Marks: make([]bool, 2)})
	p.refused("far too large", n, e, api.ErrComplex)
}

// Find: ErrArg comes ahead of ErrComplex.
func TestFindArgFirst(t *testing.T) {
	p := begin(t)
	id := p.layOne(upTo(api.MaxSize))
	for _, x := range []api.Type{
		{Kind: api.KArray, Parts: []int{id}, Num: 1}, {Kind: api.KArray, Parts: []int{id, id}}, {Kind: api.KFunc, Parts: []int{id, id}, Marks: []bool{true, true}}, {Kind: api.KFunc, Parts: []int{id, id, id}, Marks: []bool{true, false}},
		{Kind: api.KRef, Parts: []int{id}}, {Kind: api.KRef, Text: "I", Parts: []int{id, -1}}, {Kind: api.KObject, Names: []string{"1"}, Parts: []int{id}, Marks: []bool{true}}, {Kind: api.KCase, Text: "A", Parts: []int{id}}, {Kind: api.KUnion, Parts: []int{id, 1}},
	} {
		n, e := p.find(x)
		p.refused("both", n, e, api.ErrArg)
	}
}

// Union: the size is that of what is left.
func TestSizeOfUnion(t *testing.T) {
	for _, size := range []int{api.MaxSize - 1, api.MaxSize, api.MaxSize + 1} {
		p := begin(t)
		literals := nums(size - 1)
		for _, l := range [][]shape{
			{upTo(size - 2), bare(api.KNull)},
			{upTo(size - 2), bare(api.KNull), bare(api.KNever), bare(api.KNull)},
			{upTo(size / 2), object(upTo(size - 2 - size/2))},
			literals,
			append(literals, literals...),
			append(literals[:len(literals)-2:len(literals)-2], of("E@1.A")),
		} {
			n, e := p.union(p.lay(l...)...)
			p.sized("Union", n, e, union(l...), size)
		}
	}
}

// Union: what goes does not count, however much it is.
func TestUnionOfMuch(t *testing.T) {
	p := begin(t)
	a := upTo(api.MaxSize)
	ids := p.lay(a, object(upTo(490)), object(upTo(491)))
	literals := p.lay(nums(700)...)
	for _, row := range []struct {
		ids  []int
		want string
	}{
		{append(literals, 6), "number"}, {append(literals, 6, 7), "number | string"}, {append(ids, 0), "any"}, {append(ids, 1), "unknown"}, {append(ids, 1, 0), "any"}, {append(literals, 0), "any"},
	} {
		n, e := p.union(row.ids...)
		p.is(row.want, n, e, of(row.want))
	}
	n, e := p.union(ids[0], ids[0], 2)
	p.is("one", n, e, a)
	n, e = p.union(ids...)
	p.refused("much", n, e, api.ErrComplex)
	n, e = p.union(literals...)
	p.refused("many", n, e, api.ErrComplex)
	n, e = p.union(append(literals, 7)...)
	p.refused("many, and string", n, e, api.ErrComplex)
}

// Subst: the size is asked of what comes out.
func TestSizeOfSubst(t *testing.T) {
	for _, size := range []int{api.MaxSize - 1, api.MaxSize, api.MaxSize + 1} {
		p := begin(t)
		for _, row := range []struct {
			of    shape
			types []shape
		}{
			{of("T'1[]"), []shape{upTo(size - 1)}},
			{of("T'1[][][]"), []shape{upTo(size - 3)}},
			{of("{a: T'1; b: T'2[]}"), []shape{upTo(200), upTo(size - 202)}},
			{of("I#1<T'1, T'1, T'2>"), []shape{upTo(100), upTo(size - 201)}},
			{of("(T'1, T'2?) => T'1"), []shape{upTo(100), upTo(size - 201)}},
			{of("T'1 | null"), []shape{upTo(size - 2)}},
			{of("T'1[] | T'2"), []shape{upTo(size - 3), bare(api.KNull)}},
			{of("T'1 | T'2"), []shape{union(nums(size - 1)[:200]...), union(nums(size - 1)[200:]...)}},
		} {
			want := row.of.subst([]int{1, 2}[:len(row.types)], row.types)
			id, types := p.layOne(row.of), p.lay(row.types...)
			n, e := p.subst(id, []int{1, 2}[:len(types)], types)
			p.sized("Subst "+row.of.words(), n, e, want, size)
		}
	}
}

// Subst: what is too large on the way but goes in any or unknown is not asked about; none of it is there then.
func TestTooLargeGoes(t *testing.T) {
	for _, top := range []string{"any", "unknown"} {
		for _, row := range []struct{ of, want string }{
			{"T'1[] | T'2", "TOP"}, {"T'1[][] | I#1<T'1> | T'2 | null", "TOP"}, {"{a: T'1[] | T'2}", "{a: TOP}"}, {"I#1<{a: T'1} | T'2, number>", "I#1<TOP, number>"}, {"((() => T'1) | T'2)[]", "TOP[]"}, {"{a: (T'1[] | T'2)[]; b: T'2 | T'1[]}", "{a: TOP[]; b: TOP}"},
		} {
			p := begin(t)
			id, types := p.id(row.of), p.lay(upTo(api.MaxSize), of(top))
			want := of(row.of).subst([]int{1, 2}, []shape{upTo(api.MaxSize), of(top)})
			if s := want.words(); s != strings.ReplaceAll(row.want, "TOP", top) {
				t.Fatal(s, row.want)
			}
			n, e := p.subst(id, []int{1, 2}, types)
			p.is(row.of, n, e, want)
		}
	}
	p := begin(t)
	n, e := p.subst(p.id("{a: T'1[] | T'2; b: T'1[]}"), []int{1, 2}, p.lay(upTo(api.MaxSize), of("any")))
	p.refused("one goes, one does not", n, e, api.ErrComplex)
	n, e = p.subst(p.id("T'1[] | T'2 | number"), []int{1, 2}, p.lay(upTo(api.MaxSize), of("never")))
	p.refused("never does not help", n, e, api.ErrComplex)
}

// Subst: what falls together counts once.
func TestSubstTogether(t *testing.T) {
	p := begin(t)
	half := upTo(400)
	id := p.id("T'1[] | T'2[] | T'3[]")
	for _, types := range [][]shape{{half, half, half}, {half, half, number}, {half, object(half), number}, {upTo(499), upTo(499), upTo(499)}, {upTo(498), upTo(498), number}} {
		n, e := p.subst(id, []int{1, 2, 3}, p.lay(types...))
		p.is("together", n, e, of("T'1[] | T'2[] | T'3[]").subst([]int{1, 2, 3}, types))
	}
}

// Widen: `false | true` is greater than either, a KEnum less than its KCase.
func TestSizeOfWiden(t *testing.T) {
	p := begin(t)
	for truths := range 170 {
		for _, size := range []int{api.MaxSize, api.MaxSize + 1} {
			rest := size - 3*truths - 1
			if truths < 163 || rest < 0 {
				continue
			}
			s := object(append(times(truths, bare(api.KTrue)), times(rest, number)...)...)
			n, e := p.widen(p.layOne(s))
			p.sized("Widen", n, e, s.widen(), size)
		}
	}
	s := object(times(249, of("E@1.A"))...)
	n, e := p.widen(p.layOne(s))
	p.sized("Widen cases", n, e, s.widen(), 250)
	s = object(array(object(times(166, bare(api.KFalse))...)), bare(api.KTrue))
	n, e = p.widen(p.layOne(s))
	p.sized("Widen within", n, e, s.widen(), 504)
	s = union(nums(499)...)
	n, e = p.widen(p.layOne(s))
	p.is("Widen many", n, e, number)
}

// Pieces: the size of each piece; if one is too large, none is there.
func TestSizeOfPieces(t *testing.T) {
	p := begin(t)
	p.defines(3, []int{7}, "{a: T'7; b: T'7[]; c: {x: T'7}; d: T'7[] | null}")
	for size := 494; size <= 499; size++ {
		ref := p.layOne(declared(api.KRef, 3, "I", upTo(size)))
		l, e := p.pieces(ref)
		if size+3 > api.MaxSize {
			if e != api.ErrComplex || len(l) != 0 {
				t.Error(size, l, e)
			}
			continue
		}
		if e != api.OK || len(l) != 4 {
			t.Fatal(size, l, e)
		}
		for i, s := range all("T'7; T'7[]; {x: T'7}; T'7[] | null") {
			p.is(l[i].Name, l[i].Type, api.OK, s.subst([]int{7}, []shape{upTo(size)}))
		}
	}
	p.defines(3, []int{7, 8}, "{a: T'7[][] | T'8}")
	l, e := p.pieces(p.layOne(declared(api.KRef, 3, "I", upTo(498), bare(api.KAny))))
	if e != api.OK || len(l) != 1 || l[0].Type != 0 {
		t.Error(l, e)
	}
	// Not defined with so many vars: that comes ahead.
	p.defines(3, []int{7}, "{a: {x: T'7; y: T'7}}")
	p.hasNone("I#3")
	if l, e := p.pieces(p.layOne(declared(api.KRef, 3, "I", upTo(300), number))); e != api.ErrNone {
		t.Error(l, e)
	}
	if l, e := p.pieces(p.layOne(declared(api.KRef, 3, "I", upTo(300)))); e != api.ErrComplex {
		t.Error(l, e)
	}
}

// What is refused leaves nothing: neither types on the way nor their texts.
func TestNothingIsLeft(t *testing.T) {
	p := begin(t)
	big := p.layOne(upTo(api.MaxSize))
	id := p.id("{a: T'2[]; b: {c: T'2 | null}; d: T'1[]}")
	n, e := p.subst(id, []int{1, 2}, []int{big, 6})
	p.refused("Subst", n, e, api.ErrComplex)
	p.defines(3, []int{1, 2}, "{a: T'2[]; b: {c: T'2 | null}; d: T'1[]}")
	ref, e := p.find(api.Type{Kind: api.KRef, Num: 3, Text: "I", Parts: []int{p.layOne(upTo(498)), 6}})
	p.is("Find", ref, e, declared(api.KRef, 3, "I", upTo(498), number))
	p.defines(3, []int{1, 2}, "{a: T'2[]; b: {c: T'2 | null}; d: T'1[][][]}")
	if l, e := p.pieces(ref); e != api.ErrComplex {
		t.Error(l, e)
	}
	truths := object(append([]shape{of("{x: 5}[]")}, times(200, bare(api.KTrue))...)...)
	n, e = p.widen(p.layOne(truths))
	p.refused("Widen", n, e, api.ErrComplex)
	// None of the texts may lead to a number that is not there.
	for _, s := range []string{"{c: null | number}", "number[]", "{x: number}[]", "false | true", "null | number"} {
		length := p.a.Len()
		if n := p.id(s); n >= p.a.Len() || p.a.Len() < length || p.a.Text(n) != s {
			t.Errorf("%s is %d of %d, %s", s, n, p.a.Len(), p.a.Text(n))
		}
	}
}

// What a call makes on the way and does not answer is not there.
func TestNothingMoreIsLeft(t *testing.T) {
	p := begin(t)
	id := p.id("{a: T'1[] | T'2; b: T'1}")
	n, e := p.subst(id, []int{1, 2}, []int{6, 0})
	p.is("Subst", n, e, of("{a: any; b: number}"))
	if _, ok := p.ids["number[]"]; ok {
		t.Error("number[] is there")
	}
	n, e = p.widen(p.id("null | true"))
	p.is("Widen", n, e, of("false | null | true"))
	if _, ok := p.ids["false | true"]; ok {
		t.Error("false | true is there")
	}
}

// Sizes that double end.
func TestDoubling(t *testing.T) {
	a := kinds.New()
	x, size := 0, 1
	for range 100 {
		n, e := a.Find(api.Type{Kind: api.KObject, Names: []string{"a", "b"}, Parts: []int{x, x}, Marks: make([]bool, 2)})
		if size = 2*size + 1; size > api.MaxSize {
			if n != 0 || e != api.ErrComplex {
				t.Fatal(size, n, e)
			}
			return
		}
		if e != api.OK {
			t.Fatal(size, e)
		}
		x = n
	}
}
