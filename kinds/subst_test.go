package kinds_test

import (
	"testing"

	"shuck/api"
)

// substRow is a type, what stands in the place of the KVars 1, 2 and so on, `; ` between, and what comes out.
type substRow struct{ of, types, want string }

func substs(t *testing.T, rows ...substRow) {
	t.Helper()
	for _, row := range rows {
		p := begin(t)
		id, types := p.id(row.of), p.lay(all(row.types)...)
		var vars []int
		for i := range types {
			vars = append(vars, i+1)
		}
		n, e := p.subst(id, vars, types)
		p.is("Subst "+row.of+" with "+row.types, n, e, of(row.want))
		if s := of(row.of).subst(vars, all(row.types)).words(); s != row.want {
			t.Errorf("the slow one of %s with %s: %s, not %s", row.of, row.types, s, row.want)
		}
	}
}

// P8.4: through every kind that has Parts, everywhere in it; by Num, whatever the name.
func TestSubst(t *testing.T) {
	substs(t,
		substRow{"T'1", "number", "number"}, substRow{"U'1", "number", "number"}, substRow{"T'2", "number", "T'2"}, substRow{"T'2", "number; string", "string"},
		substRow{"T'1[]", "number", "number[]"}, substRow{"T'1[][]", "1 | 2", "(1 | 2)[][]"}, substRow{"T'1[]", "() => void", "(() => void)[]"},
		substRow{"{a: T'1; b?: T'2; c: T'3}", "number; string", "{a: number; b?: string; c: T'3}"}, substRow{"{a: {a: {a: T'1}}}", "null", "{a: {a: {a: null}}}"},
		substRow{"(T'1, T'2?) => T'1", "number; string", "(number, string?) => number"}, substRow{"(T'1?) => void", "1 | 2", "((1 | 2)?) => void"}, substRow{"() => () => T'1", "number", "() => () => number"},
		substRow{"I#1<T'1, T'2>", "number; string", "I#1<number, string>"}, substRow{"I#1<I#1<T'1>>", "I#1<number>", "I#1<I#1<I#1<number>>>"}, substRow{"I#1", "number", "I#1"},
		substRow{"T'1 | null", "number", "null | number"}, substRow{"T'1 | T'2 | T'3", "number; string", "T'3 | number | string"},
		substRow{"E@1.A", "number", "E@1.A"}, substRow{"E@1", "number", "E@1"}, substRow{"class C#1", "number", "class C#1"}, substRow{"enum E#1", "number", "enum E#1"}, substRow{"namespace N#1", "number", "namespace N#1"},
		substRow{"{a: (T'1[], {b: T'2} | null) => I#1<T'1 | T'2>}", "number; string", "{a: (number[], null | {b: string}) => I#1<number | string>}"},
	)
}

// P8.4: all at once: what is put there is not asked again.
func TestSubstAtOnce(t *testing.T) {
	substs(t,
		substRow{"I#1<T'1, T'2>", "U'2; T'1", "I#1<U'2, T'1>"}, substRow{"T'1[]", "T'1[]", "T'1[][]"}, substRow{"T'1 | T'2[]", "T'2; T'1", "T'1[] | T'2"},
	)
}

// P8.4: unions are made by P8.2: what falls together, what goes, what is in another.
func TestSubstUnions(t *testing.T) {
	substs(t,
		substRow{"T'1 | number", "number", "number"}, substRow{"T'1 | T'2", "number; number", "number"}, substRow{"T'1 | T'2", "number; 1", "number"}, substRow{"1 | T'1", "number", "number"}, substRow{`"a" | 1 | T'1`, "string", "1 | string"},
		substRow{"T'1 | number", "any", "any"}, substRow{"T'1 | number", "unknown", "unknown"}, substRow{"T'1 | T'2", "unknown; any", "any"}, substRow{"T'1 | number", "never", "number"}, substRow{"T'1 | T'2", "never; never", "never"},
		substRow{"T'1 | null", "1 | null", "1 | null"}, substRow{"T'1[] | T'2[]", "number; number", "number[]"}, substRow{"T'1[] | number[] | null", "number", "null | number[]"}, substRow{"{a: T'1} | {a: T'2}", "1; 1", "{a: 1}"},
		substRow{"E@1.A | T'1", "E@1", "E@1"}, substRow{"E@1.A | T'1", "E@2", "E@1.A | E@2"}, substRow{"(T'1 | T'2)[]", "any; number", "any[]"}, substRow{"{a: T'1 | null; b: T'2}", "null; void", "{a: null; b: void}"}, substRow{"((T'1 | null)?) => void", "null", "(null?) => void"},
		substRow{"(() => void) | T'1", "() => void", "() => void"}, substRow{"(() => T'1) | (() => void)", "void", "() => void"},
	)
}

// P8.4: of a number twice among vars the first one counts; numbers that no KVar has change nothing.
func TestSubstTwice(t *testing.T) {
	p := begin(t)
	id := p.id("I#1<T'1, T'2>")
	for _, row := range []struct {
		vars  []int
		types string
		want  string
	}{
		{[]int{1, 1}, "number; string", "I#1<number, T'2>"}, {[]int{1, 2, 1, 2}, "1; 2; 3; 4", "I#1<1, 2>"}, {[]int{2, 2, 2}, "T'2; any; any", "I#1<T'1, T'2>"},
		{[]int{-1, 0, 3, 1 << 62, -1 << 63, 2}, "1; 2; 3; 4; 5; 6", "I#1<T'1, 6>"}, {nil, "", "I#1<T'1, T'2>"}, {[]int{}, "", "I#1<T'1, T'2>"},
	} {
		n, e := p.subst(id, row.vars, p.lay(all(row.types)...))
		p.is(row.want, n, e, of(row.want))
	}
}

// P8.4: its errors, and which comes first.
func TestSubstErrors(t *testing.T) {
	p := begin(t)
	id := p.id("T'1[]")
	for _, none := range []int{-1, p.a.Len(), 1 << 62, -1 << 63} {
		for _, row := range []struct {
			id          int
			vars, types []int
		}{{none, nil, nil}, {none, []int{1}, []int{6}}, {id, []int{1}, []int{none}}, {id, []int{1, 2}, []int{6, none}}, {none, []int{1}, nil}, {id, nil, []int{none}}, {id, []int{1}, []int{6, none}}, {6, []int{9}, []int{none}}} {
			n, e := p.subst(row.id, row.vars, row.types)
			p.refused("no number", n, e, api.ErrNone)
		}
	}
	for _, row := range [][2][]int{{{1}, nil}, {nil, {6}}, {{1, 2}, {6}}, {{1}, {6, 7}}} {
		for _, id := range []int{id, 6} {
			n, e := p.subst(id, row[0], row[1])
			p.refused("unlike lengths", n, e, api.ErrArg)
		}
	}
	large := p.layOne(arrays(499, bare(api.KNumber)))
	n, e := p.subst(id, []int{1}, []int{large, -1})
	p.refused("too large, unlike, no number", n, e, api.ErrNone)
	n, e = p.subst(id, []int{1}, []int{large, 6})
	p.refused("too large, unlike", n, e, api.ErrArg)
}

// P8.8: a KVar for itself is the same type, of whatever.
func TestSubstItself(t *testing.T) {
	p := begin(t)
	v, w := p.id("T'1"), p.id("T'2")
	for _, s := range append(ofEachKind, "T'1", "T'1 | T'2", "(T'1?) => T'2[]", "{a: I#1<T'1>} | null") {
		id := p.id(s)
		if n, e := p.subst(id, []int{1, 2}, []int{v, w}); n != id || e != api.OK {
			t.Errorf("%s: %s, %v", s, p.a.Text(n), e)
		}
	}
}
