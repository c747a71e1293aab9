package kinds_test

import (
	"slices"
	"testing"

	"shuck/api"
)

// made is the pieces of an object's text, as Define takes them, in the order that they have there.
func (p *probe) made(object string) []api.Piece {
	p.Helper()
	o := of(object)
	var l []api.Piece
	for i, name := range o.names {
		l = append(l, api.Piece{Name: name, Type: p.layOne(o.parts[i]), Mark: o.marks[i]})
	}
	return l
}

// defines defines a node by the text of an object.
func (p *probe) defines(node int, vars []int, object string) {
	p.Helper()
	if e := p.define(node, vars, p.made(object)); e != api.OK {
		p.Fatalf("Define %s: %v", object, e)
	}
}

// wordsOf is pieces as the text of an object.
func (p *probe) wordsOf(l []api.Piece) string {
	p.Helper()
	o := shape{kind: api.KObject}
	for _, piece := range l {
		if piece.Type < 0 || piece.Type >= len(p.known) {
			p.Fatalf("%v: no number", l)
		}
		o.names, o.marks = append(o.names, piece.Name), append(o.marks, piece.Mark)
		o.parts = append(o.parts, p.known[piece.Type].shape)
	}
	return o.words()
}

// has fails, unless the pieces of a type are those of an object's text.
func (p *probe) has(s, want string) {
	p.Helper()
	l, e := p.pieces(p.id(s))
	if got := p.wordsOf(l); got != want || e != api.OK {
		p.Errorf("%s has %s, %v, not %s", s, got, e, want)
	}
}

// hasNone fails, if a type has pieces.
func (p *probe) hasNone(s string) {
	p.Helper()
	if l, e := p.pieces(p.id(s)); e != api.ErrNone {
		p.Errorf("%s has %v, %v", s, l, e)
	}
}

// P8.7: of an object its members, in their order.
func TestObjectPieces(t *testing.T) {
	p := begin(t)
	for _, s := range []string{"{}", "{a: number}", "{a?: number}", "{A: 1; _?: 2 | 3; a: () => void; b?: T'1}", "{a: {b: number}}"} {
		p.has(s, s)
	}
	for _, piece := range p.made("{a: number; b?: string}") {
		l, _ := p.pieces(p.id("{a: number; b?: string}"))
		if !slices.Contains(l, piece) {
			t.Error(l, piece)
		}
	}
	// A definition of its number, or of its KVars', is nothing to an object.
	p.defines(p.id("{a: T'1}"), nil, "{x: number}")
	p.defines(1, []int{1}, "{x: number}")
	p.has("{a: T'1}", "{a: T'1}")
}

// P8.6, P8.7: of a reference what is defined for its node, rising by Name, with its Parts in the place of the parameters.
func TestRefPieces(t *testing.T) {
	p := begin(t)
	p.defines(3, []int{7, 8}, "{z: T'7[]; a?: U'8; m: (T'7) => U'8; k: T'9; b: number}")
	p.has("I#3<number, string>", "{a?: string; b: number; k: T'9; m: (number) => string; z: number[]}")
	p.has("I#3<1 | 2, () => void>", "{a?: () => void; b: number; k: T'9; m: (1 | 2) => () => void; z: (1 | 2)[]}")
	p.has("I#3<U'8, T'7>", "{a?: T'7; b: number; k: T'9; m: (U'8) => T'7; z: U'8[]}")
	p.has("J#3<number, string>", "{a?: string; b: number; k: T'9; m: (number) => string; z: number[]}")
	p.defines(0, nil, "{}")
	p.has("I#0", "{}")
	p.defines(1<<63-1, nil, "{b: number; a: T'7}")
	p.has("I#9223372036854775807", "{a: T'7; b: number}")
	p.defines(4, []int{7}, "{value: T'7 | null; next: L#4<T'7>}")
	p.has("L#4<number>", "{next: L#4<number>; value: null | number}")
	p.has("L#4<L#4<null>>", "{next: L#4<L#4<null>>; value: L#4<null> | null}")
	p.has("L#4<any>", "{next: L#4<any>; value: any}")
}

// P8.7: vars are what Subst takes: one twice, of which the first one counts, and such that nothing has.
func TestRefVars(t *testing.T) {
	p := begin(t)
	p.defines(3, []int{7, 7, -5}, "{a: T'7}")
	p.has("I#3<number, string, any>", "{a: number}")
	p.hasNone("I#3<number>")
	p.hasNone("I#3<number, string>")
}

// P8.7: as many Parts as vars; else there are none. Nor are there of what is not defined.
func TestRefNone(t *testing.T) {
	p := begin(t)
	p.defines(3, []int{7}, "{a: T'7}")
	p.defines(4, nil, "{a: T'7}")
	for _, s := range []string{"I#3", "I#3<number, string>", "I#4<number>", "I#5", "I#5<number>", "I#0", "I#7<number>", "I#7"} {
		p.hasNone(s)
	}
}

// P8.7: everything else has none, even if its node is defined.
func TestOthersNone(t *testing.T) {
	p := begin(t)
	for node := range 12 {
		p.defines(node, nil, "{a: number}")
	}
	for _, s := range append(ofEachKind, "{} | {a: number}", "I#7[]", "I#7 | I#8", "I#7 | null") {
		if k := of(s); k.kind != api.KObject && k.kind != api.KRef {
			p.hasNone(s)
		}
	}
	for _, id := range []int{-1, p.a.Len(), 1 << 62, -1 << 63} {
		if l, e := p.pieces(id); e != api.ErrNone {
			t.Error(id, l, e)
		}
	}
}

// P8.6: what is defined again is that from now on.
func TestDefineTwice(t *testing.T) {
	p := begin(t)
	p.defines(3, []int{7}, "{a: T'7; b: number}")
	p.has("I#3<1>", "{a: 1; b: number}")
	p.defines(3, []int{7}, "{a: T'7[]}")
	p.has("I#3<1>", "{a: 1[]}")
	p.defines(3, []int{8}, "{a: T'7; b: T'8}")
	p.has("I#3<1>", "{a: T'7; b: 1}")
	p.defines(3, nil, "{c: number}")
	p.hasNone("I#3<1>")
	p.has("I#3", "{c: number}")
	p.defines(3, []int{}, "{}")
	p.has("I#3", "{}")
	p.defines(4, nil, "{d: number}")
	p.has("I#3", "{}")
	p.has("I#4", "{d: number}")
}

// P8.6: of two pieces of one Name the first one counts.
func TestNameTwice(t *testing.T) {
	p := begin(t)
	p.defines(3, nil, "{b: 1; a: 2; b: 3; a?: 4; c: 5; b?: 6}")
	p.has("I#3", "{a: 2; b: 1; c: 5}")
	p.defines(3, nil, "{a?: 1; a: 2}")
	p.has("I#3", "{a?: 1}")
}

// P8.6: wrong nodes, Names and Types; which error comes first; and nothing has changed then.
func TestDefineErrors(t *testing.T) {
	p := begin(t)
	p.defines(3, nil, "{a: 1}")
	none := []int{-1, p.a.Len(), 1 << 62, -1 << 63}
	for _, node := range []int{-1, -2, -1 << 63} {
		for _, l := range [][]api.Piece{nil, {{Name: "a", Type: 6}}, {{Name: "a", Type: -1}}, {{Name: "", Type: -1}}} {
			if e := p.define(node, nil, l); e != api.ErrArg {
				t.Error(node, l, e)
			}
		}
	}
	for _, name := range []string{"", "1", "a b", "class", "é", "a.b", " a", "constructor", "\xff"} {
		for _, l := range [][]api.Piece{{{Name: name, Type: 6}}, {{Name: "a", Type: 6}, {Name: name, Type: 6}}, {{Name: name, Type: -1}}, {{Name: "a", Type: -1}, {Name: name, Type: 6}}} {
			if e := p.define(3, []int{1}, l); e != api.ErrArg {
				t.Error(name, l, e)
			}
		}
	}
	for _, id := range none {
		for _, l := range [][]api.Piece{{{Name: "a", Type: id}}, {{Name: "a", Type: 6}, {Name: "b", Type: id}}, {{Name: "a", Type: 6}, {Name: "a", Type: id}}} {
			if e := p.define(3, []int{1}, l); e != api.ErrNone {
				t.Error(l, e)
			}
		}
	}
	p.has("I#3", "{a: 1}")
	p.hasNone("I#3<number>")
}

// P8.6: any vars are taken: they are no numbers of types.
func TestDefineVars(t *testing.T) {
	p := begin(t)
	for _, vars := range [][]int{nil, {}, {-1}, {1 << 62, -1 << 63}, {99, 99}} {
		if e := p.define(3, vars, p.made("{a: number}")); e != api.OK {
			t.Error(vars, e)
		}
	}
}
