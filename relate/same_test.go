package relate_test

import (
	"fmt"
	"slices"
	"testing"

	"shuck/api"
	"shuck/kinds"
	"shuck/relate"
)

// P9.5: what references have is what it was, in an answer and with an error.
func TestDefinitionsStay(t *testing.T) {
	w := begin(t)
	w.interfaces("1<7> {a: I#1<T'7[]>; b?: T'7}", "2<7> {a: I#2<T'7[]>; b?: T'7}", "3 {a: I#3; b: number}", "4 {a: I#4}")
	refs := w.ids("I#1<number>", "I#2<number>", "I#1<string>", "I#3", "I#4")
	has := func() []string {
		var l []string
		for _, id := range refs {
			pieces, e := w.a.Pieces(id)
			l = append(l, fmt.Sprint(e))
			for _, p := range pieces {
				l = append(l, fmt.Sprint(p.Name, p.Mark, w.a.Text(p.Type)))
			}
		}
		return l
	}
	before := has()
	for _, x := range refs {
		for _, y := range refs {
			w.assignable(x, y)
			w.pairs(x, y, 5000)
			if now := has(); !slices.Equal(now, before) {
				t.Fatalf("%v, it was %v", now, before)
			}
		}
	}
}

// W2: nothing is kept from one call to the next: an interface that is defined anew is asked anew.
func TestDefinedAnew(t *testing.T) {
	w := begin(t)
	x, y := w.id("A#1"), w.id("B#2")
	w.answers(x, y, false, api.OK, 1)
	w.interfaces("1 {a: A#1}")
	w.answers(x, y, false, api.OK, 1)
	w.interfaces("2 {a: B#2}")
	w.answers(x, y, true, api.OK, 1)
	w.interfaces("2 {a: B#2; b: 1}")
	w.answers(x, y, false, api.OK, 1)
	w.interfaces("1 {a: A#1; b: 2}")
	w.answers(x, y, false, api.OK, 2)
	w.interfaces("2 {a: B#2; b: number}")
	w.answers(x, y, true, api.OK, 2)
	w.interfaces("2<7> {a: B#2}")
	w.answers(x, y, false, api.OK, 1)
	w.interfaces("1 {}", "2 {}")
	w.answers(x, y, true, api.OK, 1)
}

// W2: of two pieces of one Name the first one counts, and the order of a definition's pieces says nothing.
func TestOrderOfPieces(t *testing.T) {
	w := begin(t)
	one, number, str := w.id("1"), w.id("number"), w.id("string")
	w.defineAs(1, nil, []api.Piece{{Name: "c", Type: one}, {Name: "a", Type: one}, {Name: "b", Type: str}, {Name: "a", Type: str}})
	w.defineAs(2, nil, []api.Piece{{Name: "b", Type: str}, {Name: "c", Type: number}, {Name: "c", Type: str}, {Name: "a", Type: number}})
	w.holds(row{"A#1", "B#2", true, 3}, row{"B#2", "A#1", false, 3}, row{"A#1", "{a: 1; b: string; c: 1}", true, 3})
}

// script is what some calls answer, and all types that are there in the end.
func script(t *testing.T) []string {
	w := begin(t)
	w.interfaces("1<7,8> {a: {x: T'7[]; y: U'8}; b: (T'7 | U'8)[]; c: I#1<U'8, T'7>; d?: (T'7) => U'8}", "2<7> {a: {x: T'7[]; y?: T'7}; b: T'7[]; c: J#2<T'7>; d?: (T'7[]) => T'7}")
	var l []string
	for _, y := range w.ids("J#2<number>", `J#2<"a" | 1>`, "I#1<number, string>", "{a: {}; b: null[] | number[]}") {
		x := w.id(`I#1<1, "a">`)
		is, e := relate.Assignable(w.a, x, y)
		l = append(l, fmt.Sprint(is, e, relate.Pairs(w.a, x, y, 1000), relate.Pairs(w.a, y, x, 5)))
	}
	for id := range w.a.Len() {
		l = append(l, w.a.Text(id))
	}
	return l
}

// W2: the same calls answer the same and lay the same types in the same order, whatever the order of a map.
func TestSameEachTime(t *testing.T) {
	first := script(t)
	for range 30 {
		if again := script(t); !slices.Equal(first, again) {
			t.Fatalf("%v, it was %v", again, first)
		}
	}
}

// W9: arenas of several goroutines do not touch each other.
func TestSideBySide(t *testing.T) {
	first := script(t)
	same := make(chan bool)
	for range 8 {
		go func() {
			ok := true
			for range 10 {
				ok = ok && slices.Equal(first, script(t))
			}
			same <- ok
		}()
	}
	for range 8 {
		if !<-same {
			t.Error("another answer")
		}
	}
}

// W2: what else an arena has says nothing: it may have the types that are asked about already, or not.
func TestWhatElseIsThere(t *testing.T) {
	defined := []string{"1<7> {a: T'7[]; b: L#1<T'7>}", "2<7> {a: T'7[]; b: M#2<T'7>}"}
	for _, w := range []*world{begin(t), {t, &kinds.Arena{}}, begin(t)} {
		w.ids("number[]", "1[]", "L#1<number[]>", "number[][]")
		w.interfaces(defined...)
		w.holds(row{"L#1<1>", "M#2<number>", true, 3}, row{"L#1<1[]>", "M#2<number[]>", true, 4}, row{"L#1<number>", "M#2<1>", false, 3})
		w.ids("M#2<1>[]", "{a: L#1<string>}")
		w.holds(row{"L#1<1>", "M#2<number>", true, 3}, row{"L#1<number>", "M#2<1>", false, 3})
	}
}
