package narrow_test

import (
	"fmt"
	"slices"
	"testing"

	"shuck/api"
	"shuck/kinds"
	"shuck/narrow"
)

// P10.4: what references have is what it was, in an answer and with an error.
func TestDefinitionsStay(t *testing.T) {
	w := begin(t)
	big, just := large(w)
	w.interfaces("2<7> {k: T'7; n?: I#2<T'7[]>}", "3 {k: 1 | 2}")
	refs := append(w.ids("I#2<1>", "I#2<null>", "I#2<1[]>", "I#3", "I#2", "I#9"), big, just)
	has := func() []string {
		var l []string
		for _, id := range refs {
			pieces, e := w.a.Pieces(id)
			l = append(l, fmt.Sprint(e))
			for _, p := range pieces {
				l = append(l, fmt.Sprint(p.Name, p.Mark, w.a.Text(p.Type)))
			}
		}
		return l
	}
	before := has()
	for _, x := range refs {
		for _, y := range refs {
			for _, words := range []string{"typeof object", "is null", "truthy", "has k", "k is 1"} {
				w.keep(w.join(x, y), w.test(words), true)
				w.keep(w.join(x, y), w.test(words), false)
			}
			w.assigned(w.join(x, w.id("null")), y)
			if now := has(); !slices.Equal(now, before) {
				t.Fatalf("%v, it was %v", now, before)
			}
		}
	}
}

// join is the union of two; the first one, if that is too large.
func (w *world) join(x, y int) int {
	if u, e := w.a.Union([]int{x, y}); e == api.OK {
		return u
	}
	return x
}

// P10.4: no more types are laid than what is answered asks for.
func TestNothingLaidBeside(t *testing.T) {
	for _, w := range both(t) {
		w.interfaces("1 {k: 1}", "2<7> {k: T'7}")
		ids := w.ids("any", "never", "number", "string", "E@1", "1", "1 | 2", "E@1 | number | string", "{k: 1} | {k: 2}", "I#1 | I#2<1>", "I#9 | {}")
		var tests []api.Test
		for _, words := range []string{"typeof number", "typeof boolean", "is 1", "is E@1.A", "truthy", "has k", "k is 1"} {
			tests = append(tests, w.test(words))
		}
		for _, id := range ids {
			for _, test := range tests {
				for _, yes := range []bool{true, false} {
					length := w.a.Len()
					n, _ := w.keep(id, test, yes)
					if w.a.Len() > length && (n != length || w.a.Len() != length+1) {
						t.Errorf("%s, %v, %v: %d types more", w.a.Text(id), test, yes, w.a.Len()-length)
					}
				}
			}
		}
	}
}

// W2: nothing is kept from one call to the next: an interface that is defined anew is asked anew.
func TestDefinedAnew(t *testing.T) {
	w := begin(t)
	w.holds(left("I#1", "has k", "?"), left("I#1", "k is 1", "?"))
	w.interfaces("1 {k: 1}")
	w.holds(left("I#1", "has k", "y"), left("I#1", "k is 1", "y"))
	w.assigns(given{"I#1 | null", "{k: 1}", "I#1"})
	w.interfaces("1 {k: 2}")
	w.holds(left("I#1", "has k", "y"), left("I#1", "k is 1", "n"))
	w.assigns(given{"I#1 | null", "{k: 1}", "I#1 | null"})
	w.interfaces("1 {k?: 2}")
	w.holds(left("I#1", "has k", "?"), left("I#1", "k is 1", "?"))
	w.interfaces("1<7> {k: 1}")
	w.holds(left("I#1", "has k", "?"), left("I#1", "k is 1", "?"), left("I#1<1>", "has k", "y"))
	// Of two pieces of one Name the first one counts.
	w.defineAs(1, nil, []api.Piece{{Name: "k", Type: w.id("2")}, {Name: "a", Type: w.id("1")}, {Name: "k", Type: w.id("1"), Mark: true}})
	w.holds(left("I#1", "has k", "y"), left("I#1", "k is 1", "n"), left("I#1", "a is 1", "y"))
}

// script is what some calls answer, and all types that are there in the end.
func script(t *testing.T) []string {
	w := begin(t)
	w.interfaces("1<7> {k: T'7[]; m: {x: T'7; y: 1}}", "2<7> {k: T'7; m?: I#2<T'7[]>}")
	declared := w.id("E@1 | I#1<1> | I#2<1> | I#2<2> | null | number | string | {k: 1}")
	var l []string
	for _, words := range []string{"typeof number", "typeof object", "is 3", "is E@1.A", "truthy", "has k", "has m", "k is 1", "k is null"} {
		for _, yes := range []bool{true, false} {
			n, e := narrow.Keep(w.a, declared, w.test(words), yes)
			l = append(l, fmt.Sprint(n, e))
		}
	}
	for _, value := range w.ids("I#1<1>", "I#2<1> | null", "E@1.A", "{k: 1; m: I#2<1[]>}") {
		n, e := narrow.Assigned(w.a, declared, value)
		l = append(l, fmt.Sprint(n, e))
	}
	for id := range w.a.Len() {
		l = append(l, w.a.Text(id))
	}
	return l
}

// W2: the same calls answer the same and lay the same types in the same order.
func TestSameEachTime(t *testing.T) {
	first := script(t)
	for range 30 {
		if again := script(t); !slices.Equal(first, again) {
			t.Fatalf("%v, it was %v", again, first)
		}
	}
}

// W9: arenas of several goroutines do not touch each other.
func TestSideBySide(t *testing.T) {
	first := script(t)
	same := make(chan bool)
	for range 8 {
		go func() {
			ok := true
			for range 10 {
				ok = ok && slices.Equal(first, script(t))
			}
			same <- ok
		}()
	}
	for range 8 {
		if !<-same {
			t.Error("another answer")
		}
	}
}

// W2: what else an arena has says nothing: it may have what is answered already, or not.
func TestWhatElseIsThere(t *testing.T) {
	for _, w := range []*world{begin(t), {t, &kinds.Arena{}}, begin(t)} {
		rows := []row{
			{"null | number | string", "typeof string", "string", "null | number"},
			{"unknown", "typeof boolean", "false | true", "unknown"},
			{"E@1 | null | undefined", "is E@1.A", "E@1.A", "E@1 | null | undefined"},
		}
		w.holds(rows...)
		w.ids("number[]", "null | number", "false | true", "E@1.A[]", "string[]")
		w.holds(rows...)
	}
}
