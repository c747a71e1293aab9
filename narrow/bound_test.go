package narrow_test

import (
	"strings"
	"testing"

	"shuck/api"
	"shuck/relate"
)

// large is a reference to I#1 whose Pieces can't be made, and one whose Pieces just can.
func large(w *world) (tooLarge, just int) {
	w.Helper()
	w.interfaces("1<7> {k: 1; m: {x: T'7; y: T'7}}")
	half := w.id("number" + strings.Repeat("[]", (api.MaxSize-1)/2-1))
	return w.ref(1, "I", w.find(api.Type{Kind: api.KArray, Parts: []int{half}})), w.ref(1, "I", half)
}

// P10.1: Pieces that can't be made, where a test asks for them: whichever member it asks for.
func TestTooLarge(t *testing.T) {
	for _, w := range both(t) {
		big, just := large(w)
		if _, e := w.a.Pieces(big); e != api.ErrComplex {
			t.Fatal(e)
		}
		never := w.id("never")
		for _, words := range []string{"has k", "has m", "has z", "has ", "k is 1", "k is 2", "m is null", "z is 1", " is 1"} {
			test := w.test(words)
			w.fails(big, test, api.ErrComplex)
			// Beside parts ahead of it and behind it, of which anything may be said.
			w.fails(w.union(big, w.id("0")), test, api.ErrComplex)
			w.fails(w.union(big, w.id("T'7")), test, api.ErrComplex)
			w.fails(w.union(big, w.id("A#1 | {k: 1} | {}")), test, api.ErrComplex)
		}
		w.leaves(just, w.test("has k"), true, just, api.OK)
		w.leaves(just, w.test("has k"), false, never, api.OK)
		w.leaves(just, w.test("k is 2"), true, never, api.OK)
		w.leaves(just, w.test("z is 2"), true, just, api.OK)
	}
}

// P10.1: Pieces that can't be made, but that nothing asks for.
func TestTooLargeUnasked(t *testing.T) {
	for _, w := range both(t) {
		big, _ := large(w)
		never, null := w.id("never"), w.id("null")
		with := w.union(big, null)
		w.leaves(big, w.test("truthy"), true, big, api.OK)
		w.leaves(big, w.test("truthy"), false, never, api.OK)
		w.leaves(with, w.test("truthy"), true, big, api.OK)
		w.leaves(with, w.test("typeof object"), true, with, api.OK)
		w.leaves(with, w.test("typeof object"), false, never, api.OK)
		w.leaves(with, w.test("is null"), true, with, api.OK)
		w.leaves(with, w.test("is null"), false, big, api.OK)
		w.leaves(with, w.test("is undefined"), true, never, api.OK)
		// Within what is asked for it is a type like others.
		array := w.find(api.Type{Kind: api.KArray, Parts: []int{big}})
		fn := w.find(api.Type{Kind: api.KFunc, Parts: []int{big}})
		for _, id := range []int{array, fn} {
			w.leaves(id, w.test("has k"), true, id, api.OK)
			w.leaves(id, w.test("k is 1"), false, id, api.OK)
		}
		object, wide := w.has(big), w.has(with)
		w.leaves(object, w.test("has k"), true, object, api.OK)
		w.leaves(object, w.test("k is null"), true, object, api.OK)
		w.leaves(object, w.test("k is 1"), true, never, api.OK)
		w.leaves(wide, w.test("k is null"), false, wide, api.OK)
		w.leaves(wide, w.test("k is 1"), false, wide, api.OK)
		// What has none has none that are too large.
		two := w.ref(1, "I", w.at(big).Parts[0], null)
		w.leaves(two, w.test("has k"), false, two, api.OK)
		w.leaves(two, w.test("k is 1"), true, two, api.OK)
	}
}

// P10.1: what would be left may be larger than the type was: an enum has less in it than its member.
func TestLeftTooLarge(t *testing.T) {
	w := begin(t)
	enum, member := w.id("E@1"), w.id("E@1.A")
	is := api.Test{Kind: api.TestIs, Type: member}
	full := w.union(enum, w.numbers(0, api.MaxSize-2))
	length := w.a.Len()
	w.leaves(full, is, true, 0, api.ErrComplex)
	if w.a.Len() != length {
		t.Errorf("%d types more", w.a.Len()-length)
	}
	w.leaves(full, is, false, full, api.OK)
	less := w.union(enum, w.numbers(0, api.MaxSize-3))
	w.leaves(less, is, true, w.union(member, w.numbers(0, api.MaxSize-3)), api.OK)
}

// P10.1: unions as large as they may be.
func TestWide(t *testing.T) {
	w := begin(t)
	all, number := w.numbers(0, api.MaxSize-1), w.id("number")
	w.leaves(all, w.test("typeof number"), true, all, api.OK)
	w.leaves(all, w.test("typeof string"), true, w.id("never"), api.OK)
	w.leaves(all, w.test("truthy"), true, w.numbers(1, api.MaxSize-2), api.OK)
	w.leaves(all, w.test("truthy"), false, w.id("0"), api.OK)
	w.leaves(all, w.test("is 498"), true, w.id("498"), api.OK)
	w.leaves(all, w.test("is 498"), false, w.numbers(0, api.MaxSize-2), api.OK)
	w.leaves(number, w.test("is 499"), true, w.id("499"), api.OK)
}

// ring defines so many interfaces, each of which has the next one and the last one the first.
func (w *world) ring(node int, name string, n int) int {
	w.Helper()
	for i := range n {
		w.defineAs(node+i, nil, []api.Piece{{Name: "next", Type: w.ref(node+(i+1)%n, name)}})
	}
	return w.ref(node, name)
}

// answers fails, unless Assigned answers that type, or that error.
func (w *world) answers(declared, value, want int, err api.Errno) {
	w.Helper()
	if n, e := w.assigned(declared, value); n != want || e != err {
		w.Errorf("%s to %s: %s, %v, not %s, %v", w.short(value), w.short(declared), w.short(n), e, w.short(want), err)
	}
	if n, e := w.slowAssigned(declared, value); n != want || e != err {
		w.Errorf("%s to %s: the slow reading says %s, %v", w.short(value), w.short(declared), w.short(n), e)
	}
}

// P10.2: MaxPairs and one pair more, from one part to another.
func TestMostPairs(t *testing.T) {
	w := begin(t)
	small, null := w.ring(1, "R", 1), w.id("null")
	declared := w.union(small, null)
	just, beyond := w.ring(10000, "A", api.MaxPairs), w.ring(20000, "A", api.MaxPairs+1)
	w.answers(declared, just, small, api.OK)
	w.answers(declared, beyond, 0, api.ErrComplex)
	// The other way round.
	w.answers(w.union(just, null), small, just, api.OK)
	w.answers(w.union(beyond, null), small, 0, api.ErrComplex)
	// Nothing is asked.
	w.answers(small, beyond, small, api.OK)
	w.answers(beyond, small, beyond, api.OK)
	w.answers(w.union(beyond, null), w.id("any"), w.union(beyond, null), api.OK)
	// Nothing that is asked leads on.
	w.answers(w.union(beyond, null), beyond, beyond, api.OK)
	w.answers(w.union(beyond, null), w.id("never"), w.union(beyond, null), api.OK)
	w.answers(w.id("null | number"), beyond, w.id("null | number"), api.OK)
}

// P10.2: each part is asked by itself: what several reach together may be more.
func TestPairsOfEach(t *testing.T) {
	w := begin(t)
	long := w.ring(10000, "A", api.MaxPairs-500)
	first, second := w.ring(1, "R", 1), w.ring(2, "S", 1)
	declared := w.union(first, second)
	if _, e := relate.Assignable(w.a, long, declared); e != api.ErrComplex {
		t.Fatal(e)
	}
	w.answers(declared, long, declared, api.OK)
	w.answers(w.union(long, w.id("null")), declared, long, api.OK)
}

// P10.2: an error is told, though another part of the value fits, and whatever order names make of them.
func TestComplexBesideWhatFits(t *testing.T) {
	for _, name := range []string{"A", "Z"} {
		w := begin(t)
		beyond := w.ring(10000, name, api.MaxPairs+1)
		w.interfaces("5 {next: any}")
		fits, small := w.id("K#5"), w.ring(1, "R", 1)
		for _, declared := range []int{w.union(small, w.id("0")), w.union(small, w.id("null")), w.union(small, w.id("{next: K#5}"))} {
			w.answers(declared, w.union(beyond, fits), 0, api.ErrComplex)
			w.answers(declared, beyond, 0, api.ErrComplex)
		}
		w.answers(w.union(small, w.id("null")), fits, small, api.OK)
		w.answers(w.union(beyond, w.id("{next: any}")), small, 0, api.ErrComplex)
	}
}

// P10.2: Pieces that can't be made, where chapter 9 asks for them.
func TestAssignedTooLarge(t *testing.T) {
	for _, w := range both(t) {
		big, just := large(w)
		null, empty, object := w.id("null"), w.id("{}"), w.id("null | {}")
		w.answers(object, big, 0, api.ErrComplex)
		w.answers(object, just, empty, api.OK)
		w.answers(object, w.union(big, null), 0, api.ErrComplex)
		w.answers(object, w.union(big, w.id("1")), 0, api.ErrComplex)
		w.answers(w.union(big, null), empty, 0, api.ErrComplex)
		w.answers(w.union(big, null), w.id("null | {}"), 0, api.ErrComplex)
		w.answers(w.union(big, null), big, big, api.OK)
		w.answers(w.union(big, null), null, null, api.OK)
		w.answers(w.union(big, null), w.id("any"), w.union(big, null), api.OK)
		w.answers(w.id("null | number"), big, w.id("null | number"), api.OK)
		w.answers(empty, big, empty, api.OK)
	}
}
