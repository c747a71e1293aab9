package kinds_test

import (
	"strings"
	"testing"
	"unsafe"

	"shuck/api"
	"shuck/kinds"
)

// apart fails, if two lists share something, their room too.
func apart(t *testing.T, what string, lists ...[]int) {
	t.Helper()
	for i, l := range lists {
		spoil(l, 1000+i)
	}
	for i, l := range lists {
		for _, x := range full(l) {
			if x != 1000+i {
				t.Fatalf("%s: two lists share", what)
			}
		}
	}
}

// P8.10: the lists of two answers share nothing, nor with what the arena keeps or was handed.
func TestListsAreNew(t *testing.T) {
	a := kinds.New()
	in := api.Type{Kind: api.KObject, Names: []string{"a", "b"}, Parts: []int{6, 7}, Marks: []bool{false, true}}
	id, _ := a.Find(in)
	ids := []int{6, 7, 8}
	u, _ := a.Union(ids)
	first, _ := a.At(id)
	second, _ := a.At(id)
	union1, _ := a.At(u)
	union2, _ := a.At(u)
	apart(t, "At and what was handed in", first.Parts, second.Parts, union1.Parts, union2.Parts, in.Parts, ids)
	for _, x := range []api.Type{first, in} {
		spoil1(x)
		if second.Names[0] != "a" || second.Names[1] != "b" || second.Marks[0] || !second.Marks[1] {
			t.Fatal(second)
		}
	}
	if a.Text(id) != "{a: number; b?: string}" || a.Text(u) != "number | string | true" {
		t.Error(a.Text(id), a.Text(u))
	}
	third, _ := a.At(id)
	if !sameType(third, api.Type{Kind: api.KObject, Names: []string{"a", "b"}, Parts: []int{6, 7}, Marks: []bool{false, true}}) {
		t.Error(third)
	}
}

// P8.10: what Define is handed is not kept, and what Pieces answers is new, of an object and of a reference.
func TestPiecesAreNew(t *testing.T) {
	p := begin(t)
	v := p.id("T'7")
	vars, pieces := []int{7}, []api.Piece{{Name: "b", Type: v}, {Name: "a", Type: 6, Mark: true}}
	if e := p.a.Define(3, vars, pieces); e != api.OK {
		t.Fatal(e)
	}
	spoil(vars, 8)
	spoil(pieces, api.Piece{Name: "x", Type: 0})
	ref, object := p.id("I#3<string>"), p.id("{a: number; b: string}")
	for _, id := range []int{ref, object} {
		one, _ := p.a.Pieces(id)
		two, _ := p.a.Pieces(id)
		spoil(one, api.Piece{Name: "x", Type: 0})
		three, _ := p.a.Pieces(id)
		for _, l := range [][]api.Piece{two, three} {
			if len(l) != 2 || l[0] != (api.Piece{Name: "a", Type: 6, Mark: id == ref}) || l[1] != (api.Piece{Name: "b", Type: 7}) {
				t.Error(l)
			}
		}
	}
	p.look()
}

// inMemory tells whether a text lies within another's bytes.
func inMemory(s, of string) bool {
	begin := uintptr(unsafe.Pointer(unsafe.StringData(of)))
	at := uintptr(unsafe.Pointer(unsafe.StringData(s)))
	return s != "" && at >= begin && at < begin+uintptr(len(of))
}

// P8.10: texts are new memory, too.
func TestTextsAreNew(t *testing.T) {
	whole := strings.Repeat("abcdef", 10)
	a := kinds.New()
	str, _ := a.Find(api.Type{Kind: api.KStrIs, Text: whole[:6]})
	ref, _ := a.Find(api.Type{Kind: api.KRef, Num: 3, Text: whole[:6]})
	object, _ := a.Find(api.Type{Kind: api.KObject, Names: []string{whole[:6]}, Parts: []int{6}, Marks: []bool{true}})
	if e := a.Define(3, nil, []api.Piece{{Name: whole[:6], Type: 6}}); e != api.OK {
		t.Fatal(e)
	}
	var told []string
	for range 2 {
		for _, id := range []int{str, ref, object} {
			x, _ := a.At(id)
			l, _ := a.Pieces(id)
			told = append(append(told, x.Text, a.Text(id)), x.Names...)
			for _, piece := range l {
				told = append(told, piece.Name)
			}
		}
	}
	for i, s := range told {
		if inMemory(s, whole) {
			t.Errorf("%q is what was handed in", s)
		}
		for _, other := range told[:i] {
			if inMemory(s, other) {
				t.Errorf("%q is another answer", s)
			}
		}
	}
	if len(told) != 18 {
		t.Error(len(told), told)
	}
}

// W9: arenas of several goroutines do not touch each other.
func TestSideBySide(t *testing.T) {
	done := make(chan bool)
	for range 8 {
		go func() {
			same := true
			for range 30 {
				a := kinds.New()
				v, _ := a.Find(api.Type{Kind: api.KVar, Num: 7, Text: "T"})
				l, _ := a.Find(api.Type{Kind: api.KArray, Parts: []int{v}})
				u, _ := a.Union([]int{l, 8})
				n, e := a.Subst(u, []int{7}, []int{6})
				same = same && e == api.OK && a.Text(n) == "number[] | true"
				n, e = a.Widen(n)
				same = same && e == api.OK && a.Text(n) == "false | number[] | true"
			}
			done <- same
		}()
	}
	for range 8 {
		if !<-done {
			t.Error("another answer")
		}
	}
}

// W2: the same calls tell the same numbers, whatever the order of a map.
func TestSameNumbers(t *testing.T) {
	script := func() []string {
		p := begin(t)
		p.defines(3, []int{1, 2}, "{d: {x: T'1[]; y: T'2}; c: (T'1 | T'2)[]; b: T'1 | T'2 | null; a: I#3<T'2, T'1>}")
		p.pieces(p.id("I#3<{a: true}, () => 1>"))
		p.widen(p.id(`{a: {b: 1}[] | "x"[] | true[]; c: {b: 2}[]}`))
		p.subst(p.id("{a: T'1[][] | T'2; b: T'1[]}"), []int{1, 2}, []int{p.id("5"), 0})
		var l []string
		for id := range p.a.Len() {
			l = append(l, p.a.Text(id))
		}
		return l
	}
	first := script()
	for range 30 {
		for i, s := range script() {
			if s != first[i] {
				t.Fatalf("%d is %s, it was %s", i, s, first[i])
			}
		}
	}
}
