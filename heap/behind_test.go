package heap_test

import (
	"testing"

	"shuck/api"
	"shuck/heap"
)

// P15.2, P15.4, P15.5: through several things behind one another the nearest one tells.
func TestNearestTells(t *testing.T) {
	b := begin(t, 60)
	first := b.thing(api.CObject, -1, member{"a", num(1)}, member{"b", num(1)}, member{"c", num(1)}, member{"", num(1)})
	second := b.thing(api.CClass, first.Num, member{"b", num(2)}, member{"c", num(2)})
	third := b.thing(api.CObject, second.Num)
	fourth := b.thing(api.CFunction, third.Num, member{"c", num(4)}, member{"d", num(4)})
	for _, x := range []struct {
		v          api.Value
		a, b, c, d int // 0: it has none
	}{
		{first, 1, 1, 1, 0}, {second, 1, 2, 2, 0}, {third, 1, 2, 2, 0}, {fourth, 1, 2, 4, 4},
	} {
		for key, n := range map[string]int{"a": x.a, "b": x.b, "c": x.c, "d": x.d, "": 1, "e": 0} {
			want := undefined()
			if n > 0 {
				want = num(n)
			}
			b.gives(get(x.v, key), told(want))
			b.gives(at(x.v, words(key)), told(want))
			b.gives(has(x.v, key), is(n > 0))
		}
	}
}

// P15.2, P15.3, P15.10: a member is laid ahead of one behind it, which stays; what is set behind is told by all that it stands behind and that have none themselves.
func TestSetAhead(t *testing.T) {
	b := begin(t, 60)
	p := b.thing(api.CObject, -1, member{"x", num(1)})
	q := b.lay(api.CObject, p.Num)
	r := b.lay(api.CClass, q.Num)
	side := b.lay(api.CObject, p.Num)
	tell := func(vp, vq, vr, vside api.Value) {
		t.Helper()
		for i, v := range []api.Value{vp, vq, vr, vside} {
			b.gives(get([]api.Value{p, q, r, side}[i], "x"), told(v))
		}
	}
	tell(num(1), num(1), num(1), num(1))
	b.gives(set(q, "x", num(2)), done())
	tell(num(1), num(2), num(2), num(1))
	b.gives(set(p, "x", words("p")), done())
	tell(words("p"), num(2), num(2), words("p"))
	b.gives(set(r, "x", null()), done())
	tell(words("p"), num(2), null(), words("p"))
	b.gives(put(q, words("x"), undefined()), done())
	tell(words("p"), undefined(), null(), words("p"))
	b.gives(set(p, "y", num(9)), done())
	for _, v := range []api.Value{p, q, r, side} {
		b.gives(get(v, "y"), told(num(9)))
	}
	b.gives(used(), count(8))
}

// P15.9: Show tells a thing's own members alone.
func TestOwnAreShown(t *testing.T) {
	b := begin(t, 60)
	p := b.thing(api.CObject, -1, member{"x", num(1)}, member{"y", num(1)})
	q := b.thing(api.CObject, p.Num)
	b.gives(show(q), says("{}"))
	b.gives(set(q, "z", num(3)), done())
	b.gives(set(q, "x", num(2)), done())
	b.gives(show(q), says("{z: 3, x: 2}"))
	b.gives(show(p), says("{x: 1, y: 1}"))
}

// P15.2 (W1): as many things as there are cells stand behind one another.
func TestVeryFarBehind(t *testing.T) {
	h, _ := heap.New(api.MaxCells)
	h.Make(api.CObject, -1)
	h.Set(ref(0), "x", num(1))
	last := 0
	for h.Used() < api.MaxCells {
		last, _ = h.Make(api.CObject, last)
	}
	if a := ask(h, get(ref(last), "x")); a != told(num(1)) || last != api.MaxCells-2 {
		t.Error(last, a)
	}
	if a := ask(h, get(ref(last), "y")); a != told(undefined()) {
		t.Error(a)
	}
	if a := ask(h, has(ref(last), "x")); a != is(true) {
		t.Error(a)
	}
	if a := ask(h, has(ref(last), "y")); a != is(false) {
		t.Error(a)
	}
}
