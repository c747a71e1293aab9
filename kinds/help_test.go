package kinds_test

import (
	"reflect"
	"slices"
	"testing"

	"shuck/api"
	"shuck/kinds"
)

// probe calls an arena. Whatever is handed in has room behind its lists and is looked at again behind the call, then written over; so is whatever is answered. Behind each call each number must tell what it told first, and with an error nothing may be new.
type probe struct {
	*testing.T
	a     *kinds.Arena
	known []known
	ids   map[string]int // of the texts
	quick bool           // while shapes are laid: what is new is looked at alone
}

// known is what a number told first.
type known struct {
	is    api.Type
	text  string
	shape shape
	size  int
}

func begin(t *testing.T) *probe {
	t.Helper()
	return probing(t, kinds.New())
}

func probing(t *testing.T, a *kinds.Arena) *probe {
	t.Helper()
	p := &probe{T: t, a: a, ids: map[string]int{}}
	p.look()
	return p
}

// spared is a list with room behind it, and something in it.
func spared[T any](l []T, rest ...T) []T {
	long := append(slices.Clone(l), rest...)
	return long[:len(l)]
}

// full is all that a list has, its room too.
func full[T any](l []T) []T { return slices.Clone(l[:cap(l)]) }

// spoil makes something else of all that a list has, its room too.
func spoil[T any](l []T, of T) {
	l = l[:cap(l)]
	for i := range l {
		l[i] = of
	}
}

func spared1(x api.Type) api.Type {
	x.Parts = spared(x.Parts, -71, -72)
	x.Names = spared(x.Names, "behind", "it")
	x.Marks = spared(x.Marks, true, false)
	return x
}

func full1(x api.Type) api.Type {
	x.Parts, x.Names, x.Marks = full(x.Parts), full(x.Names), full(x.Marks)
	return x
}

func spoil1(x api.Type) {
	spoil(x.Parts, -99)
	spoil(x.Names, "spoiled")
	spoil(x.Marks, true)
}

// stays fails, unless what was handed in is what it was.
func (p *probe) stays(what string, got, want any) {
	p.Helper()
	if !reflect.DeepEqual(got, want) {
		p.Fatalf("%s changed what was handed in: %v, not %v", what, got, want)
	}
}

func (p *probe) find(x api.Type) (int, api.Errno) {
	p.Helper()
	in := spared1(x)
	before := full1(in)
	n, e := p.a.Find(in)
	p.stays("Find", full1(in), before)
	spoil1(in)
	return p.answered("Find", n, e)
}

func (p *probe) union(ids ...int) (int, api.Errno) {
	p.Helper()
	in := spared(ids, -71, -72)
	before := full(in)
	n, e := p.a.Union(in)
	p.stays("Union", full(in), before)
	spoil(in, -99)
	return p.answered("Union", n, e)
}

func (p *probe) subst(id int, vars, types []int) (int, api.Errno) {
	p.Helper()
	v, w := spared(vars, -71, -72), spared(types, -73, -74)
	beforeV, beforeW := full(v), full(w)
	n, e := p.a.Subst(id, v, w)
	p.stays("Subst", full(v), beforeV)
	p.stays("Subst", full(w), beforeW)
	spoil(v, -99)
	spoil(w, -99)
	return p.answered("Subst", n, e)
}

func (p *probe) widen(id int) (int, api.Errno) {
	p.Helper()
	n, e := p.a.Widen(id)
	return p.answered("Widen", n, e)
}

func (p *probe) define(node int, vars []int, pieces []api.Piece) api.Errno {
	p.Helper()
	v, w := spared(vars, -71, -72), spared(pieces, api.Piece{Name: "behind", Type: -73})
	beforeV, beforeW := full(v), full(w)
	e := p.a.Define(node, v, w)
	p.stays("Define", full(v), beforeV)
	p.stays("Define", full(w), beforeW)
	spoil(v, -99)
	spoil(w, api.Piece{Name: "spoiled", Type: -99, Mark: true})
	if n := p.a.Len(); n != len(p.known) {
		p.Fatalf("Define: %d types, not %d", n, len(p.known))
	}
	p.look()
	return e
}

func (p *probe) pieces(id int) ([]api.Piece, api.Errno) {
	p.Helper()
	l, e := p.a.Pieces(id)
	if e != api.OK && len(l) != 0 {
		p.Fatalf("Pieces: %v with %v", l, e)
	}
	told := slices.Clone(l)
	spoil(l, api.Piece{Name: "spoiled", Type: -99, Mark: true})
	p.answered("Pieces", 0, e)
	return told, e
}

// answered fails, if an error came with something, or changed something.
func (p *probe) answered(what string, n int, e api.Errno) (int, api.Errno) {
	p.Helper()
	if e != api.OK && (n != 0 || p.a.Len() != len(p.known)) {
		p.Fatalf("%s: %d and %v; %d types, not %d", what, n, e, p.a.Len(), len(p.known))
	}
	p.look()
	if e == api.OK && what != "Pieces" && (n < 0 || n >= len(p.known)) {
		p.Fatalf("%s: %d is no number", what, n)
	}
	return n, e
}

// look fails, if a number tells something else than it did; what is new is noted.
func (p *probe) look() {
	p.Helper()
	if p.a.Len() < len(p.known) {
		p.Fatalf("%d types, not %d", p.a.Len(), len(p.known))
	}
	first := 0
	if p.quick {
		first = len(p.known)
	}
	for id := first; id < p.a.Len(); id++ {
		x, e := p.a.At(id)
		text := p.a.Text(id)
		if e != api.OK {
			p.Fatalf("At(%d): %v", id, e)
		}
		if id == len(p.known) {
			p.note(x, text)
		} else if k := p.known[id]; text != k.text || !reflect.DeepEqual(x, k.is) {
			p.Fatalf("%d is %v, %s; it was %v, %s", id, x, text, k.is, k.text)
		}
		spoil1(x)
	}
}

// note looks at what a new number tells: its text must be the one by its Parts, and none that was there.
func (p *probe) note(x api.Type, text string) {
	p.Helper()
	id := len(p.known)
	s := shape{kind: x.Kind, num: x.Num, text: x.Text, names: slices.Clone(x.Names), marks: slices.Clone(x.Marks)}
	size := 1
	for _, part := range x.Parts {
		if part < 0 || part >= id {
			p.Fatalf("%s: its part %d was not laid ahead of it", text, part)
		}
		s.parts = append(s.parts, p.known[part].shape)
		size += p.known[part].size
	}
	if s.kind == api.KUnion && !slices.IsSorted(texts(s.parts, api.KFunc)) {
		p.Fatalf("%s: its parts are %v", text, texts(s.parts))
	}
	if words := s.words(); words != text {
		p.Fatalf("%d is %s, its text is %s", id, words, text)
	}
	if there, ok := p.ids[text]; ok {
		p.Fatalf("%s is %d and %d", text, there, id)
	}
	if size > api.MaxSize {
		p.Fatalf("%s has the size %d", text, size)
	}
	p.ids[text] = id
	p.known = append(p.known, known{clone(x), text, s, size})
}

func clone(x api.Type) api.Type {
	x.Parts, x.Names, x.Marks = slices.Clone(x.Parts), slices.Clone(x.Names), slices.Clone(x.Marks)
	return x
}

// typeOf is a shape as Find takes it: its Parts by their numbers.
func (p *probe) typeOf(s shape) api.Type {
	p.Helper()
	return api.Type{Kind: s.kind, Num: s.num, Text: s.text, Parts: p.lay(s.parts...), Names: s.names, Marks: s.marks}
}

// lay is the numbers of shapes, which are laid.
func (p *probe) lay(l ...shape) []int {
	p.Helper()
	wasQuick := p.quick
	p.quick = true
	var ids []int
	for _, s := range l {
		ids = append(ids, p.layOne(s))
	}
	p.quick = wasQuick
	p.look()
	return slices.Clip(ids)
}

func (p *probe) layOne(s shape) int {
	p.Helper()
	if id, ok := p.ids[s.words()]; ok {
		return id
	}
	var n int
	var e api.Errno
	if s.kind == api.KUnion {
		n, e = p.union(p.lay(s.parts...)...)
	} else {
		n, e = p.find(p.typeOf(s))
	}
	p.is("lay "+s.words(), n, e, s)
	return n
}

// id is the number of the type of a text.
func (p *probe) id(s string) int {
	p.Helper()
	return p.layOne(of(s))
}

// is fails, unless an answer is a type of that shape, and, if it is too large, ErrComplex.
func (p *probe) is(what string, n int, e api.Errno, want shape) {
	p.Helper()
	if want.size() > api.MaxSize {
		p.refused(what, n, e, api.ErrComplex)
		return
	}
	if words := want.words(); e != api.OK || n < 0 || n >= len(p.known) || p.known[n].text != words {
		p.Errorf("%s: %d, %s, %v; want %s", what, n, p.a.Text(n), e, words)
	}
}

// refused fails, unless an answer is that error and nothing.
func (p *probe) refused(what string, n int, e, want api.Errno) {
	p.Helper()
	if n != 0 || e != want {
		p.Errorf("%s: %d, %s, %v; want %v", what, n, p.a.Text(n), e, want)
	}
}
