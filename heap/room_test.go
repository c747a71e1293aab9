package heap_test

import (
	"strconv"
	"testing"

	"shuck/api"
	"shuck/heap"
)

// takers are the calls that take a cell: of an object, the thing 0, a member of that key, of an array, the thing 1, a value of that number.
func takers(key string, number int) []call {
	return []call{
		mk(api.CObject, 0), mk(api.CArray, -1), mk(api.CFunction, 0), mk(api.CClass, -1), mk(0, 7),
		set(ref(0), key, num(5)), set(ref(0), key, undefined()), put(ref(0), words(key), num(5)), put(ref(1), num(number), num(5)), push(1, num(5)), push(1, ref(0)),
	}
}

// refused is what a call answers that takes a cell where none is left.
func refused(c call) answer {
	if c.name == "Make" || c.name == "Push" {
		return noNumber(api.FaultFull)
	}
	return full()
}

// small is a bench with an object that has a member and an array that has a value: 4 cells, and so many more.
func small(t *testing.T, more int) *bench {
	b := begin(t, 4+more)
	b.thing(api.CObject, -1, member{"old", num(1)})
	b.list(num(2))
	return b
}

// isFull holds that nothing more is laid.
func (b *bench) isFull() {
	b.t.Helper()
	room := b.slow.used()
	for _, c := range takers("another", b.slow.long(1)) {
		b.gives(c, refused(c))
		b.gives(used(), count(room))
	}
}

// P15.1, P15.3, P15.6, P15.7: whatever takes the last cell has it; the one behind it is refused, and nothing changes.
func TestLastCell(t *testing.T) {
	for _, last := range takers("new", 1) {
		b := small(t, 1)
		b.gives(used(), count(4))
		if a := b.do(last); a.fault != api.FaultNone {
			t.Errorf("%v: %v", last, a)
		}
		b.gives(used(), count(5))
		b.isFull()
	}
	small(t, 0).isFull()
}

// P15.3, P15.6: what is there is set, when no cell is left; and what throws throws, and is not full.
func TestSetWhenFull(t *testing.T) {
	b := small(t, 0)
	b.gives(set(ref(0), "old", words("a")), done())
	b.gives(put(ref(0), words("old"), words("b")), done())
	b.gives(put(ref(1), num(0), ref(0)), done())
	b.gives(show(ref(1)), says(`[{old: "b"}]`))
	b.gives(set(ref(1), "old", num(1)), throws(noMembers))
	b.gives(set(undefined(), "old", num(1)), throws(noMembers))
	b.gives(set(ref(7), "old", num(1)), throws(noMembers))
	b.gives(put(ref(1), num(2), num(1)), throws(noIndex))
	b.gives(put(ref(1), num(-1), num(1)), throws(noIndex))
	b.gives(put(ref(0), num(0), num(1)), throws(noIndex))
	b.gives(put(ref(1), words("0"), num(1)), throws(noMembers))
	b.gives(push(0, num(1)), noNumber(api.FaultThrow))
	b.gives(push(2, num(1)), noNumber(api.FaultThrow))
	b.gives(used(), count(4))
}

// P15.3: a member that one behind it has is laid all the same: where no cell is left, it is refused.
func TestShadowTakesCell(t *testing.T) {
	for more := range 2 {
		b := begin(t, 3+more)
		p := b.thing(api.CObject, -1, member{"x", num(1)})
		q := b.lay(api.CObject, p.Num)
		if more == 0 {
			b.gives(set(q, "x", num(2)), full())
			b.gives(get(q, "x"), told(num(1)))
			b.gives(show(q), says("{}"))
			continue
		}
		b.gives(set(q, "x", num(2)), done())
		b.gives(get(q, "x"), told(num(2)))
		b.gives(get(p, "x"), told(num(1)))
	}
}

// P15.1: a heap without room.
func TestNoRoom(t *testing.T) {
	b := begin(t, 0)
	for _, kind := range []int{api.CObject, api.CArray, api.CFunction, api.CClass, 0, 9} {
		b.gives(mk(kind, -1), noNumber(api.FaultFull))
	}
	b.gives(used(), count(0))
}

// P15.1: MaxCells cells are all there, of things, of members, of values; not one more.
func TestMaxCells(t *testing.T) {
	for name, take := range map[string]func(h *heap.Heap, i int) int{
		"things": func(h *heap.Heap, _ int) int {
			_, fault := h.Make(api.CFunction, 0)
			return fault
		},
		"members": func(h *heap.Heap, i int) int {
			_, fault := h.Set(ref(0), strconv.Itoa(i), num(i))
			return fault
		},
		"values": func(h *heap.Heap, i int) int {
			_, fault := h.Push(1, num(i))
			return fault
		},
		"values by Put": func(h *heap.Heap, i int) int {
			_, fault := h.Put(ref(1), num(i), num(i))
			return fault
		},
	} {
		h, _ := heap.New(api.MaxCells)
		h.Make(api.CObject, -1)
		h.Make(api.CArray, -1)
		for i := range api.MaxCells - 2 {
			if fault := take(h, i); fault != api.FaultNone {
				t.Fatalf("%s: %d is refused: %d", name, i, fault)
			}
		}
		if fault := take(h, api.MaxCells-2); fault != api.FaultFull || h.Used() != api.MaxCells {
			t.Errorf("%s: %d, %d are taken", name, fault, h.Used())
		}
	}
}
