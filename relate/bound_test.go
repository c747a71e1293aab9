package relate_test

import (
	"fmt"
	"strings"
	"testing"

	"shuck/api"
)

// ref is the number of a reference.
func (w *world) ref(node int, name string, parts ...int) int {
	w.Helper()
	return w.find(api.Type{Kind: api.KRef, Num: node, Text: name, Parts: parts})
}

func (w *world) numIs(n int) int {
	w.Helper()
	return w.find(api.Type{Kind: api.KNumIs, Num: n})
}

// ring defines so many interfaces, each of which has the next one and the last one the first.
func (w *world) ring(node int, name string, n int) int {
	w.Helper()
	for i := range n {
		w.defineAs(node+i, nil, []api.Piece{{Name: "next", Type: w.ref(node+(i+1)%n, name)}})
	}
	return w.ref(node, name)
}

// wide is a reference to an interface with so many members, each of its own type.
func (w *world) wide(node, n int, of func(i int) int) int {
	w.Helper()
	var l []api.Piece
	for i := range n {
		l = append(l, api.Piece{Name: fmt.Sprintf("m%d", i), Type: of(i)})
	}
	w.defineAs(node, nil, l)
	return w.ref(node, "W")
}

// literals is the union of so many KNumIs from one on, or of KStrIs.
func (w *world) literals(kind, from, n int) int {
	w.Helper()
	var l []int
	for i := range n {
		if kind == api.KNumIs {
			l = append(l, w.numIs(from+i))
		} else {
			l = append(l, w.find(api.Type{Kind: kind, Text: fmt.Sprint(from + i)}))
		}
	}
	return w.union(l...)
}

// bounded fails, unless so many pairs are reached; with more than MaxPairs there is no answer.
func (w *world) bounded(x, y int, want bool, pairs int) {
	w.Helper()
	if pairs > api.MaxPairs {
		w.answers(x, y, false, api.ErrComplex, pairs)
	} else {
		w.answers(x, y, want, api.OK, pairs)
	}
}

// P9.1, P9.2: MaxPairs and one pair more, along a chain.
func TestMostOfAChain(t *testing.T) {
	for _, n := range []int{api.MaxPairs - 2, api.MaxPairs - 1, api.MaxPairs, api.MaxPairs + 1} {
		w := begin(t)
		w.interfaces(lines(chain(10000, "A", n, "1"), chain(20000, "B", n, "number"))...)
		x, y := w.id("A#10000"), w.id("B#20000")
		w.bounded(x, y, true, n+1)
		w.bounded(y, x, false, n+1)
	}
}

// P9.1, P9.2: MaxPairs and one pair more, where the last ones lead back to those that are reached.
func TestMostOfRings(t *testing.T) {
	for _, lengths := range [][2]int{{1999, 1}, {2000, 1}, {2001, 1}, {1, 2000}, {1, 2001}, {2000, 2000}, {2001, 2001}, {16, 125}, {125, 16}, {3, 667}, {23, 87}, {44, 45}, {43, 47}, {1000, 16}, {1000, 32}} {
		w := begin(t)
		x, y := w.ring(10000, "A", lengths[0]), w.ring(20000, "B", lengths[1])
		pairs := lengths[0]
		for pairs%lengths[1] != 0 {
			pairs += lengths[0]
		}
		w.bounded(x, y, true, pairs)
	}
}

// P9.1, P9.2: MaxPairs and one pair more, of members that are all asked at once.
func TestMostOfMembers(t *testing.T) {
	for _, n := range []int{api.MaxPairs - 2, api.MaxPairs - 1, api.MaxPairs, 3 * api.MaxPairs} {
		w := begin(t)
		number := w.id("number")
		x := w.wide(1, n, w.numIs)
		y := w.wide(2, n, func(int) int { return number })
		w.bounded(x, y, true, n+1)
		w.bounded(y, x, false, n+1)
		// That one is no already makes no other less reached.
		first := w.wide(3, n, func(i int) int {
			if i == 0 {
				return w.id("string")
			}
			return number
		})
		w.bounded(x, first, false, n+1)
		// A question that is no at once reaches none.
		more := w.wide(4, n+1, w.numIs)
		w.answers(x, more, false, api.OK, 1)
		// However often one pair is asked, it is one.
		five := w.wide(5, n, func(int) int { return w.numIs(5) })
		w.answers(five, y, true, api.OK, 2)
		w.bounded(more, y, true, n+1)
	}
}

// P9.1, P9.2: MaxPairs and one pair more, of unions.
func TestMostOfUnions(t *testing.T) {
	for _, row := range []struct{ x, y, arrays int }{{37, 53, 1}, {37, 53, 2}, {40, 49, 0}, {53, 36, 37}, {53, 36, 38}, {53, 36, 39}, {53, 36, 40}} {
		w := begin(t)
		x, y := w.literals(api.KNumIs, 0, row.x), w.literals(api.KStrIs, 0, row.y)
		like := w.literals(api.KNumIs, 0, row.x+row.y)
		for range row.arrays {
			x, y = w.find(api.Type{Kind: api.KArray, Parts: []int{x}}), w.find(api.Type{Kind: api.KArray, Parts: []int{y}})
			like = w.find(api.Type{Kind: api.KArray, Parts: []int{like}})
		}
		w.bounded(x, y, false, row.arrays+1+row.x*(1+row.y))
		w.bounded(x, like, true, row.arrays+1+row.x*(1+row.x+row.y))
	}
}

// Unions as large as they may be end soon, and are counted to the end.
func TestLargestUnions(t *testing.T) {
	w := begin(t)
	n := api.MaxSize - 1
	x, y := w.literals(api.KNumIs, 0, n), w.literals(api.KStrIs, 0, n)
	w.answers(x, y, false, api.ErrComplex, 1+n+n*n)
	w.answers(x, w.id("number"), true, api.OK, 1+n)
	w.answers(x, w.id("string"), false, api.OK, 1+n)
	w.answers(w.id("number"), x, false, api.OK, 1+n)
	w.answers(x, x, true, api.OK, 1)
}

// Where types grow in two ways, there are more pairs than can be counted: what is asked for ends.
func TestGrowsWithoutEnd(t *testing.T) {
	w := begin(t)
	w.interfaces("1<7> {a: I#1<{x: T'7}>; b: I#1<T'7[]>}", "2<7> {a: J#2<{x: T'7}>; b: J#2<T'7[]>}")
	x, y := w.id("I#1<number>"), w.id("J#2<number>")
	if is, e := w.assignable(x, y); is || e != api.ErrComplex {
		t.Error(is, e)
	}
	for _, most := range []int{1, 2, 3, 100, api.MaxPairs, api.MaxPairs + 1, 6000} {
		if n := w.pairs(x, y, most); n != most {
			t.Error(n, most)
		}
	}
}

// A chain whose pairs are all reached ahead of its end turns one pair a round.
func TestManyRounds(t *testing.T) {
	n := api.MaxPairs - 2
	w := begin(t)
	for i := range n {
		for j, node := range []int{10000, 20000} {
			last := api.Piece{Name: "next", Type: w.ref(node+max(i, 1)-1, "A")}
			if i == 0 {
				last.Type = w.numIs(j)
			}
			w.defineAs(node+i, nil, []api.Piece{last})
		}
	}
	x := w.wide(1, n, func(i int) int { return w.ref(10000+i, "A") })
	y := w.wide(2, n, func(i int) int { return w.ref(20000+i, "A") })
	w.answers(x, y, false, api.OK, n+2)
	w.answers(w.ref(10000+n-1, "A"), w.ref(20000+n-1, "A"), false, api.OK, n+1)
	w.defineAs(20000, nil, []api.Piece{{Name: "next", Type: w.id("number")}})
	w.answers(x, y, true, api.OK, n+2)
}

// large is a reference to I#1 whose Pieces can't be made, and one whose Pieces just can.
func large(w *world) (tooLarge, just int) {
	w.Helper()
	w.interfaces("1<7> {a: T'7[]; b: {x: T'7; y: T'7}}")
	half := w.id("number" + strings.Repeat("[]", (api.MaxSize-1)/2-1))
	return w.ref(1, "I", w.find(api.Type{Kind: api.KArray, Parts: []int{half}})), w.ref(1, "I", half)
}

// P9.1: Pieces that are too large to be made, where rule 11 asks for them.
func TestTooLarge(t *testing.T) {
	w := begin(t)
	big, just := large(w)
	for _, s := range []string{"{}", "{a: any}", "{z: 1}", "{a?: never}"} {
		w.answers(big, w.id(s), false, api.ErrComplex, 1)
		w.answers(w.id(s), big, false, api.ErrComplex, 1)
	}
	w.answers(big, just, false, api.ErrComplex, 1)
	w.answers(just, big, false, api.ErrComplex, 1)
	w.answers(just, w.id("{}"), true, api.OK, 1)
	w.answers(just, w.id("{a: any; b: any}"), true, api.OK, 3)
	w.answers(w.id("{}"), just, false, api.OK, 1)
	both, _ := w.a.At(big)
	w.interfaces("2<7> {b: {x: T'7; y: T'7}}")
	w.answers(big, w.ref(2, "J", both.Parts...), false, api.ErrComplex, 1)
}

// P9.1: Pieces that are too large to be made, but that nothing asks for.
func TestTooLargeUnasked(t *testing.T) {
	w := begin(t)
	big, _ := large(w)
	w.answers(big, big, true, api.OK, 1)
	for _, s := range []string{"any", "unknown"} {
		w.answers(big, w.id(s), true, api.OK, 1)
	}
	w.answers(w.id("any"), big, true, api.OK, 1)
	w.answers(w.id("never"), big, true, api.OK, 1)
	w.answers(w.id("unknown"), big, false, api.OK, 1)
	// The other one has none: rule 11 does not fit.
	for _, s := range []string{"number", "never", "void", "1", "number[]", "() => void", "T'7", "E@1", "class C#1", "I#1", "I#9", "I#1<number, number>"} {
		w.answers(big, w.id(s), false, api.OK, 1)
		if s != "never" {
			w.answers(w.id(s), big, false, api.OK, 1)
		}
	}
	w.answers(big, w.union(big, w.id("number")), true, api.OK, 3)
	w.answers(w.union(big, w.id("number")), big, false, api.OK, 3)
	w.answers(w.union(big, w.id("number")), w.id("string"), false, api.OK, 3)
}

// P9.1: a pair whose Pieces can't be made is reached all the same, though the answer would stand without it; it asks nothing further.
func TestTooLargeWithin(t *testing.T) {
	w := begin(t)
	big, _ := large(w)
	array := func(id int) int { return w.find(api.Type{Kind: api.KArray, Parts: []int{id}}) }
	fn := func(param, answer int) int {
		return w.find(api.Type{Kind: api.KFunc, Parts: []int{param, answer}, Marks: []bool{false}})
	}
	object := func(a, b int) int {
		return w.find(api.Type{Kind: api.KObject, Names: []string{"a", "b"}, Parts: []int{a, b}, Marks: make([]bool, 2)})
	}
	one, number, str, empty, void := w.id("1"), w.id("number"), w.id("string"), w.id("{}"), w.id("void")
	w.answers(array(big), array(empty), false, api.ErrComplex, 2)
	w.answers(array(big), array(number), false, api.OK, 2)
	w.answers(object(one, big), object(number, empty), false, api.ErrComplex, 3)
	w.answers(object(one, big), object(str, empty), false, api.ErrComplex, 3)
	w.answers(object(big, one), object(empty, str), false, api.ErrComplex, 3)
	w.answers(object(one, big), w.id("{a: 1; b: {}; c: 1}"), false, api.OK, 1)
	w.answers(big, w.union(number, empty), false, api.ErrComplex, 3)
	w.answers(w.id("{a: 1}"), w.union(w.id("{a: number}"), big), false, api.ErrComplex, 4)
	w.answers(w.union(str, big), w.id("{a: 1}"), false, api.ErrComplex, 3)
	w.answers(fn(big, one), fn(empty, number), false, api.ErrComplex, 3)
	w.answers(fn(number, big), fn(number, empty), false, api.ErrComplex, 3)
	w.answers(fn(number, big), fn(number, void), true, api.OK, 2)
	w.answers(fn(big, one), w.id("() => {}"), false, api.OK, 1)
	// What it would ask, others do ask.
	w.answers(object(big, array(array(one))), object(empty, array(array(number))), false, api.ErrComplex, 5)
}

// P9.1, P9.2: types that grow till their Pieces can't be made: a chain of pairs that ends there.
func TestGrowsTillTooLarge(t *testing.T) {
	for _, size := range []int{1, 2, 100, api.MaxSize - 3, api.MaxSize - 2, api.MaxSize - 1} {
		w := begin(t)
		w.interfaces("1<7> {next: I#1<T'7[]>}", "2<7> {next: J#2<T'7[]>}")
		part := w.id("number" + strings.Repeat("[]", size-1))
		// I#1 of the size n has Pieces, if n + 2 is no more than MaxSize.
		w.answers(w.ref(1, "I", part), w.ref(2, "J", part), false, api.ErrComplex, api.MaxSize-size)
		if size+2 > api.MaxSize {
			w.answers(w.ref(1, "I", part), w.id("{}"), false, api.ErrComplex, 1)
		} else {
			w.answers(w.ref(1, "I", part), w.id("{}"), true, api.OK, 1)
		}
	}
}

// P9.1: both too many pairs and Pieces that are too large.
func TestBothComplex(t *testing.T) {
	w := begin(t)
	big, _ := large(w)
	number, empty := w.id("number"), w.id("{}")
	for _, at := range []int{0, 1000, 2500} {
		x := w.wide(3, 2501, func(i int) int {
			if i == at {
				return big
			}
			return w.numIs(i)
		})
		y := w.wide(4, 2501, func(i int) int {
			if i == at {
				return empty
			}
			return number
		})
		w.answers(x, y, false, api.ErrComplex, 2502)
	}
}
