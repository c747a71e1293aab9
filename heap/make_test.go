package heap_test

import (
	"math"
	"testing"

	"shuck/api"
	"shuck/heap"
)

// P15.1: New of cells from 0 to MaxCells; nothing is taken yet.
func TestNew(t *testing.T) {
	for _, cells := range []int{0, 1, 2, 1000, api.MaxCells - 1, api.MaxCells} {
		h, e := heap.New(cells)
		if h == nil || e != api.OK || h.Used() != 0 || h.Kind(0) != 0 {
			t.Errorf("New(%d): %v, %v", cells, h, e)
		}
	}
	for _, cells := range []int{-1, -2, math.MinInt, api.MaxCells + 1, api.MaxCells + 2, 1 << 32, math.MaxInt} {
		if h, e := heap.New(cells); h != nil || e != api.ErrArg {
			t.Errorf("New(%d): %v, %v", cells, h, e)
		}
	}
}

// noKinds are numbers that are no kind of a thing.
func noKinds() []int { return []int{0, 5, 6, -1, -2, 99, math.MinInt, math.MaxInt} }

// P15.1: things have the numbers from 0 on, and each takes a cell.
func TestMake(t *testing.T) {
	b := begin(t, 20)
	for i, kind := range []int{api.CObject, api.CArray, api.CFunction, api.CClass, api.CObject, api.CClass} {
		b.gives(mk(kind, -1), count(i))
		b.gives(kindOf(i), count(kind))
		b.gives(used(), count(i+1))
	}
	for _, n := range []int{-1, 6, 7, math.MinInt, math.MaxInt} {
		b.gives(kindOf(n), count(0))
	}
}

// P15.1: what is no kind counts as CObject.
func TestMakeOfNoKind(t *testing.T) {
	b := begin(t, 100)
	p := b.thing(api.CObject, -1, member{"x", num(1)})
	for i, kind := range noKinds() {
		b.gives(mk(kind, p.Num), count(i+1))
		b.gives(kindOf(i+1), count(api.CObject))
		b.gives(get(ref(i+1), "x"), told(num(1)))
		b.gives(set(ref(i+1), "y", num(2)), done())
		b.gives(show(ref(i+1)), says("{y: 2}"))
		b.gives(typeOf(ref(i+1)), says("object"))
	}
}

// protos is a bench with one thing of each kind, each with an x, but the array.
func protos(t *testing.T) *bench {
	b := begin(t, 200)
	for _, kind := range []int{api.CObject, api.CArray, api.CFunction, api.CClass} {
		v := b.lay(kind, -1)
		if kind != api.CArray {
			b.gives(set(v, "x", num(kind)), done())
		}
	}
	return b
}

// P15.1, P15.2: an object and a class stand behind what is made; what else is handed in as a proto does not.
func TestProto(t *testing.T) {
	for _, kind := range append(noKinds(), api.CObject, api.CFunction, api.CClass) {
		b := protos(t)
		n := len(b.slow.things)
		for _, proto := range []int{-1, -2, math.MinInt, 1, 2, n + 4, n + 5, n + 6, n + 7, math.MaxInt} {
			v := b.lay(kind, proto) // the first one is n: so some are its own number, or one behind it
			b.gives(get(v, "x"), told(undefined()))
			b.gives(has(v, "x"), is(false))
			b.gives(has(v, "length"), is(false))
		}
		for _, proto := range []int{0, 3} {
			v := b.lay(kind, proto)
			b.gives(get(v, "x"), told(num(b.slow.kind(proto))))
			b.gives(has(v, "x"), is(true))
		}
	}
}

// P15.1: the thing's own number is no proto, nor is that of one which is made later.
func TestProtoIsAhead(t *testing.T) {
	b := begin(t, 20)
	for n := range 4 {
		b.gives(mk(api.CObject, n), count(n))
	}
	b.gives(mk(api.CClass, 5), count(4))
	b.gives(mk(api.CObject, -1), count(5))
	b.gives(set(ref(5), "x", num(1)), done())
	for n := range 5 {
		b.gives(get(ref(n), "x"), told(undefined()))
	}
}

// P15.1: nothing stands behind an array.
func TestArrayHasNoProto(t *testing.T) {
	b := protos(t)
	for proto := range 4 {
		v := b.lay(api.CArray, proto)
		b.gives(get(v, "x"), told(undefined()))
		b.gives(has(v, "x"), is(false))
		b.gives(get(v, "length"), told(num(0)))
	}
}
