package relate_test

import (
	"math"
	"testing"

	"shuck/api"
	"shuck/kinds"
	"shuck/relate"
)

// P9.1, P9.2: of a nil Arena ErrArg, and no pairs, whatever is handed in.
func TestNil(t *testing.T) {
	for _, x := range []int{0, 6, -1, 99, math.MaxInt, math.MinInt} {
		for _, y := range []int{0, 6, -1, 99, math.MaxInt, math.MinInt} {
			if is, e := relate.Assignable(nil, x, y); is || e != api.ErrArg {
				t.Error(x, y, is, e)
			}
			for _, most := range []int{math.MinInt, -1, 0, 1, 99, math.MaxInt} {
				if n := relate.Pairs(nil, x, y, most); n != 0 {
					t.Error(x, y, most, n)
				}
			}
		}
	}
}

// refused fails, unless x and y are refused with ErrNone.
func (w *world) refused(x, y int) {
	w.Helper()
	if is, e := w.assignable(x, y); is || e != api.ErrNone {
		w.Errorf("%d for %d: %v, %v", x, y, is, e)
	}
	for _, most := range []int{math.MinInt, -1, 0, 1, 2, math.MaxInt} {
		if n := w.pairs(x, y, most); n != 0 {
			w.Errorf("%d for %d: %d pairs of %d at most", x, y, n, most)
		}
	}
}

// P9.1, P9.2: a zero Arena has no type, and gets none.
func TestZero(t *testing.T) {
	w := &world{t, &kinds.Arena{}}
	for _, x := range []int{0, 1, 6, -1, math.MaxInt, math.MinInt} {
		w.refused(x, 0)
		w.refused(0, x)
		w.refused(x, x)
	}
	w.defineAs(3, nil, nil)
	w.refused(0, 0)
	// Its first type is what it is, not what has that number elsewhere.
	str := w.id("string")
	if str != 0 {
		t.Fatal(str)
	}
	w.answers(0, 0, true, api.OK, 1)
	w.refused(0, 1)
	w.refused(1, 0)
	w.answers(w.id(`"a"`), 0, true, api.OK, 1)
	w.answers(0, w.id("number"), false, api.OK, 1)
	w.answers(0, w.id("null | number | string"), true, api.OK, 4)
	w.answers(w.id("{}"), w.ref(3, "I"), true, api.OK, 1)
}

// P9.1, P9.2: x, y or both are no number; that is told ahead of everything else.
func TestNoNumber(t *testing.T) {
	w := begin(t)
	big, _ := large(w)
	ring := w.ring(1000, "A", api.MaxPairs+1)
	ids := append(w.ids("any", "never", "unknown", "{a: number}", "null | number", "I#1<number>"), big, ring)
	none := []int{-1, -2, math.MinInt, w.a.Len(), w.a.Len() + 1, math.MaxInt}
	for _, x := range none {
		for _, id := range ids {
			w.refused(x, id)
			w.refused(id, x)
		}
		for _, y := range none {
			w.refused(x, y)
		}
	}
	last := w.a.Len() - 1
	w.answers(last, last, true, api.OK, 1)
	w.refused(last+1, last)
	w.refused(last, last+1)
	if is, e := w.assignable(big, w.id("{}")); is || e != api.ErrComplex {
		t.Error(is, e)
	}
	if is, e := w.assignable(ring, w.ring(9000, "B", 1)); is || e != api.ErrComplex {
		t.Error(is, e)
	}
}

// P9.2: so many at most: below what is reached, just that, and above.
func TestMost(t *testing.T) {
	w := begin(t)
	w.interfaces("1 {a: A#1; b: 1; c: 2; d: (1) => 3[]}", "2 {a: A#2; b: number; c: string; d: (2) => number[]}")
	x, y := w.id("A#1"), w.id("A#2")
	reached := len(w.slow(x, y, math.MaxInt).reached)
	if reached != 7 {
		t.Fatal(reached)
	}
	for most := -3; most < 20; most++ {
		if n, want := w.pairs(x, y, most), max(0, min(most, reached)); n != want {
			t.Errorf("%d at most: %d, not %d", most, n, want)
		}
	}
	for most, want := range map[int]int{math.MaxInt: reached, math.MaxInt32: reached, math.MinInt: 0, math.MinInt32: 0} {
		if n := w.pairs(x, y, most); n != want {
			t.Errorf("%d at most: %d, not %d", most, n, want)
		}
	}
}
