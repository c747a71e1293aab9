package heap_test

import (
	"testing"

	"shuck/api"
	"shuck/heap"
)

// nobody is heaps without any thing: a nil one, a zero one, one without room.
func nobody() map[string]*heap.Heap {
	empty, _ := heap.New(0)
	return map[string]*heap.Heap{"nil": nil, "zero": {}, "without room": empty}
}

// P15.11: what a nil and a zero Heap answer: each call, as the chapter has it of a heap without room.
func TestNothingThere(t *testing.T) {
	var values []api.Value
	for _, x := range odds() {
		values = append(values, x.v, x.counts)
	}
	values = append(values, words("é"), num(0))
	for name, h := range nobody() {
		slow := &slowHeap{}
		holds := func(c call) {
			t.Helper()
			if got, want := ask(h, c), slow.answer(c); got != want {
				t.Errorf("%s: %+v: %+v, not %+v", name, c, got, want)
			}
		}
		holds(used())
		for n := -2; n < 7; n++ {
			for proto := -1; proto < 2; proto++ {
				holds(mk(n, proto))
			}
			holds(kindOf(n))
			holds(lenOf(n))
		}
		for _, v := range values {
			holds(typeOf(v))
			holds(show(v))
			holds(push(0, v))
			for _, key := range []string{"", "a", "length"} {
				holds(get(v, key))
				holds(set(v, key, num(1)))
				holds(has(v, key))
			}
			for _, index := range values {
				holds(at(v, index))
				holds(put(v, index, num(1)))
			}
		}
		holds(used())
	}
}

// P15.11: the same, of one call of each, as it stands.
func TestNothingThereSaysSo(t *testing.T) {
	for name, h := range nobody() {
		for _, x := range []struct {
			call
			want answer
		}{
			{mk(api.CObject, -1), noNumber(api.FaultFull)}, {mk(api.CArray, 0), noNumber(api.FaultFull)}, {kindOf(0), count(0)}, {used(), count(0)},
			{get(ref(0), "a"), throws(noMembers)}, {get(words("aé"), "length"), told(num(2))}, {get(num(1), "a"), told(undefined())},
			{set(ref(0), "a", num(1)), throws(noMembers)}, {set(words("a"), "a", num(1)), throws(noMembers)},
			{has(ref(0), "a"), throws(noIn)}, {has(words("a"), "length"), throws(noIn)},
			{at(ref(0), num(0)), throws(noMembers)}, {at(words("aé"), num(1)), told(words("é"))}, {at(num(1), null()), throws(noIndex)}, {at(words("a"), ref(0)), throws(noIndex)},
			{put(ref(0), num(0), num(1)), throws(noIndex)}, {put(ref(0), words("a"), num(1)), throws(noMembers)},
			{push(0, num(1)), noNumber(api.FaultThrow)}, {push(-1, num(1)), noNumber(api.FaultThrow)}, {lenOf(0), count(0)},
			{typeOf(ref(0)), says("undefined")}, {typeOf(null()), says("object")}, {typeOf(words("a")), says("string")},
			{show(ref(0)), says("undefined")}, {show(words("a")), says("a")}, {show(num(-1)), says("-1")},
		} {
			if got := ask(h, x.call); got != x.want {
				t.Errorf("%s: %+v: %+v, not %+v", name, x.call, got, x.want)
			}
		}
	}
}
