package narrow_test

import (
	"math"
	"testing"

	"shuck/api"
	"shuck/kinds"
	"shuck/narrow"
)

var someNumbers = []int{0, 1, 6, -1, 99, math.MaxInt, math.MinInt}

// P10.1, P10.2: of a nil Arena ErrArg, whatever is handed in.
func TestNil(t *testing.T) {
	for _, id := range someNumbers {
		for _, other := range someNumbers {
			for kind := -1; kind < 8; kind++ {
				for _, yes := range []bool{true, false} {
					if n, e := narrow.Keep(nil, id, api.Test{Kind: kind, Text: "k", Type: other}, yes); n != 0 || e != api.ErrArg {
						t.Error(id, kind, other, n, e)
					}
				}
			}
			if n, e := narrow.Assigned(nil, id, other); n != 0 || e != api.ErrArg {
				t.Error(id, other, n, e)
			}
		}
	}
}

// P10.1, P10.2: a zero Arena has no type, and gets none of what is refused.
func TestZero(t *testing.T) {
	w := &world{t, &kinds.Arena{}}
	w.defineAs(3, nil, nil)
	for _, id := range someNumbers {
		for _, words := range []string{"typeof number", "typeof boolean", "truthy", "has k"} {
			w.fails(id, w.test(words), api.ErrNone)
		}
		for _, other := range someNumbers {
			w.fails(id, api.Test{Kind: api.TestIs, Type: other}, api.ErrArg)
			w.fails(id, api.Test{Kind: api.TestField, Text: "k", Type: other}, api.ErrArg)
			w.fails(id, api.Test{Type: other}, api.ErrArg)
			w.answersNone(id, other)
		}
	}
	if w.a.Len() != 0 {
		t.Fatal(w.a.Len())
	}
	// Its first type is what it is, not what has that number elsewhere.
	unknown := w.id("unknown")
	w.leaves(unknown, w.test("typeof boolean"), true, 3, api.OK)
	if s := w.a.Text(3); s != "false | true" {
		t.Error(s)
	}
	w = &world{t, &kinds.Arena{}}
	w.leaves(w.id("1"), w.test("typeof string"), true, 1, api.OK)
	if s := w.a.Text(1); s != "never" {
		t.Error(s)
	}
}

func (w *world) answersNone(declared, value int) {
	w.Helper()
	if n, e := w.assigned(declared, value); n != 0 || e != api.ErrNone {
		w.Errorf("%d to %d: %d, %v", value, declared, n, e)
	}
}

// P10.1: kinds of tests that are none; that is told ahead of everything else.
func TestNoKind(t *testing.T) {
	w := begin(t)
	big, _ := large(w)
	one := w.id("1")
	for _, kind := range []int{math.MinInt, -5, -2, -1, 0, 6, 7, 99, math.MaxInt} {
		for _, id := range []int{0, 1, 2, 6, one, big, -1, w.a.Len(), math.MaxInt} {
			for _, value := range []int{one, 0, 4, -1} {
				w.fails(id, api.Test{Kind: kind, Text: "number", Type: value}, api.ErrArg)
			}
		}
	}
}

// P10.1: a Type that is no type of one value, or none at all; ahead of numbers that are none and of Pieces that can't be made.
func TestNoValue(t *testing.T) {
	for _, w := range both(t) {
		big, _ := large(w)
		ids := []int{w.id("1"), w.id("unknown"), w.id("1 | {k: 1}"), big, -1, math.MaxInt}
		values := w.ids("any", "unknown", "never", "void", "number", "string", "1[]", "{}", "{k: 1}", "() => 1", "1 | 2", "false | true", "null | undefined", "E@1.A | E@1.B",
			"I#1", "I#1<1>", "T'7", "E@1", "class C#1", "enum E#1", "namespace N#1")
		for _, value := range append(values, -1, -2, w.a.Len(), w.a.Len()+1, math.MaxInt, math.MinInt) {
			for _, id := range append(ids, w.a.Len()) {
				w.fails(id, api.Test{Kind: api.TestIs, Type: value}, api.ErrArg)
				w.fails(id, api.Test{Kind: api.TestField, Text: "k", Type: value}, api.ErrArg)
				w.fails(id, api.Test{Kind: api.TestField, Text: "", Type: value}, api.ErrArg)
			}
		}
	}
}

// P10.1, P10.2: numbers that are none, and the last one that is.
func TestNoNumber(t *testing.T) {
	w := begin(t)
	big, _ := large(w)
	beyond, small := w.ring(10000, "A", api.MaxPairs+1), w.ring(1, "R", 1)
	ids := append(w.ids("any", "never", "unknown", "number", "1 | 2", "null | {}"), big, w.union(beyond, small))
	var tests []api.Test
	for _, words := range []string{"typeof number", "is 1", "truthy", "has k", "k is 1"} {
		tests = append(tests, w.test(words))
	}
	last := w.a.Len() - 1
	for _, none := range []int{-1, -2, math.MinInt, last + 1, last + 2, math.MaxInt} {
		for _, test := range tests {
			w.fails(none, test, api.ErrNone)
		}
		for _, id := range ids {
			w.answersNone(none, id)
			w.answersNone(id, none)
		}
		w.answersNone(none, none)
	}
	first := w.id("any")
	w.leaves(first, tests[0], true, first, api.OK)
	w.leaves(last, tests[2], true, last, api.OK)
	w.answers(last, first, last, api.OK)
	w.answers(first, last, first, api.OK)
}
