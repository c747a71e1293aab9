package kinds_test

import (
	"testing"

	"shuck/api"
	"shuck/kinds"
)

// P8.10: of a nil Arena: ErrArg, and nothing, whatever is handed in.
func TestNil(t *testing.T) {
	var a *kinds.Arena
	for _, id := range []int{0, 6, -1, 99, 1 << 62, -1 << 63} {
		for _, x := range []api.Type{{}, {Kind: api.KNumber}, {Kind: api.KArray, Parts: []int{id}}} {
			if n, e := a.Find(x); n != 0 || e != api.ErrArg {
				t.Error("Find", n, e)
			}
		}
		for _, ids := range [][]int{nil, {}, {id}, {id, id}} {
			if n, e := a.Union(ids); n != 0 || e != api.ErrArg {
				t.Error("Union", n, e)
			}
			if n, e := a.Subst(id, ids, ids); n != 0 || e != api.ErrArg {
				t.Error("Subst", n, e)
			}
			if n, e := a.Subst(id, nil, ids); n != 0 || e != api.ErrArg {
				t.Error("Subst", n, e)
			}
			if e := a.Define(id, ids, []api.Piece{{Name: "a", Type: id}}); e != api.ErrArg {
				t.Error("Define", e)
			}
			if e := a.Define(id, ids, nil); e != api.ErrArg {
				t.Error("Define", e)
			}
		}
		if x, e := a.At(id); !sameType(x, api.Type{}) || e != api.ErrArg {
			t.Error("At", x, e)
		}
		if s := a.Text(id); s != "" {
			t.Error("Text", s)
		}
		if n, e := a.Widen(id); n != 0 || e != api.ErrArg {
			t.Error("Widen", n, e)
		}
		if l, e := a.Pieces(id); len(l) != 0 || e != api.ErrArg {
			t.Error("Pieces", l, e)
		}
	}
	if n := a.Len(); n != 0 {
		t.Error("Len", n)
	}
}

// A zero Arena has no type: no number is one.
func TestZero(t *testing.T) {
	p := probing(t, &kinds.Arena{})
	if n := p.a.Len(); n != 0 {
		t.Error(n)
	}
	for _, id := range []int{0, 6, -1, 99} {
		n, e := p.union(id)
		p.refused("Union", n, e, api.ErrNone)
		n, e = p.subst(id, nil, nil)
		p.refused("Subst", n, e, api.ErrNone)
		n, e = p.widen(id)
		p.refused("Widen", n, e, api.ErrNone)
		n, e = p.find(api.Type{Kind: api.KArray, Parts: []int{id}})
		p.refused("Find", n, e, api.ErrArg)
		if x, e := p.a.At(id); !sameType(x, api.Type{}) || e != api.ErrNone {
			t.Error("At", x, e)
		}
		if s := p.a.Text(id); s != "" {
			t.Error("Text", s)
		}
		if l, e := p.pieces(id); e != api.ErrNone {
			t.Error("Pieces", l, e)
		}
		if e := p.define(3, nil, []api.Piece{{Name: "a", Type: id}}); e != api.ErrNone {
			t.Error("Define", e)
		}
	}
	if n := p.a.Len(); n != 0 {
		t.Error(n)
	}
}

// Types may be laid into a zero Arena as into any other: their numbers are in the order of the calls.
func TestZeroGrows(t *testing.T) {
	zero := func() *probe { return probing(t, &kinds.Arena{}) }
	p := zero()
	for i, s := range []string{"string", "number", "any", "string[]", "never"} {
		if n := p.id(s); n != i {
			t.Errorf("%s is %d, not %d", s, n, i)
		}
	}
	p = zero()
	n, e := p.union()
	p.is("Union of none", n, e, of("never"))
	if p.a.Len() != 1 {
		t.Error(p.a.Len())
	}
	p = zero()
	n, e = p.union(p.lay(all(`1; "a"; E@1.A`)...)...)
	p.is("Union beside nothing", n, e, of(`"a" | 1 | E@1.A`))
	if p.a.Len() != 5 {
		t.Error("what is asked for was laid")
	}
	n, e = p.union(n, p.id("number"))
	p.is("Union beside number", n, e, of(`"a" | E@1.A | number`))
	for _, s := range []string{"1", `"a"`, "true", "false", "E@1.A", "true[]", `{a: 1 | "a"; b: true | null}`, "(1 | 2)[]"} {
		p = zero()
		n, e = p.widen(p.id(s))
		p.is("Widen "+s, n, e, of(s).widen())
	}
	p = zero()
	if e := p.define(3, nil, nil); e != api.OK {
		t.Error(e)
	}
	p.has("I#3", "{}")
	p.defines(3, []int{1}, "{a: T'1 | null}")
	p.has("I#3<number>", "{a: null | number}")
	p.has("I#3<null>", "{a: null}")
}

// What is refused leaves a zero Arena without a type.
func TestZeroStays(t *testing.T) {
	p := probing(t, &kinds.Arena{})
	n, e := p.find(api.Type{Kind: api.KNumIs, Num: 1, Text: "a"})
	p.refused("Find", n, e, api.ErrArg)
	if e := p.define(-1, nil, nil); e != api.ErrArg {
		t.Error(e)
	}
	if p.a.Len() != 0 {
		t.Error(p.a.Len())
	}
}

// Two arenas have nothing to do with each other.
func TestTwoArenas(t *testing.T) {
	p, q := begin(t), begin(t)
	p.id("1[]")
	p.defines(3, nil, "{a: 1}")
	if q.a.Len() != 10 {
		t.Error(q.a.Len())
	}
	q.hasNone("I#3")
	q.defines(3, nil, "{b: 2}")
	p.has("I#3", "{a: 1}")
	q.has("I#3", "{b: 2}")
}
