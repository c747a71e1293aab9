package heap_test

import (
	"slices"
	"testing"

	"shuck/api"
	"shuck/heap"
)

// P15.10: Used never falls, and is never above the room, whatever is done.
func TestUsed(t *testing.T) {
	m := newMaker(2)
	filled := 0
	for range 3000 {
		room, l := m.script()
		h, _ := heap.New(room)
		before := 0
		for _, c := range l {
			a := ask(h, c)
			now := h.Used()
			if now < before || now > before+1 || now > room || a.fault != api.FaultNone && now != before {
				t.Fatalf("%+v: %+v, %d cells of %d, they were %d", c, a, now, room, before)
			}
			before = now
		}
		if before == room {
			filled++
		}
	}
	if filled < 300 || filled > 2700 {
		t.Errorf("%d are filled", filled)
	}
}

// P15.10: what one thing has set is told by it and by those that it stands behind, and by no other.
func TestSetIsTold(t *testing.T) {
	m := newMaker(3)
	for range 300 {
		h, _ := heap.New(1000)
		var behind []int // of each thing
		var last []api.Value
		for n := range 15 {
			proto, kind := m.choose(n+1)-1, pick(m, []int{api.CObject, api.CClass, api.CFunction})
			h.Make(kind, proto)
			if h.Kind(proto) == api.CFunction {
				proto = -1
			}
			behind, last = append(behind, proto), append(last, undefined())
		}
		own := make([]bool, len(behind))
		for i := range 30 {
			n := m.choose(len(behind))
			h.Set(ref(n), "x", num(i))
			own[n] = true
			for x := range behind {
				nearest := x
				for nearest >= 0 && !own[nearest] {
					nearest = behind[nearest]
				}
				if nearest == n {
					last[x] = num(i)
				}
				if a := ask(h, get(ref(x), "x")); a != told(last[x]) {
					t.Fatalf("%d, behind which stands %d: %+v, not %v", x, behind[x], a, last[x])
				}
			}
		}
	}
}

func withRoom(cells int) *heap.Heap {
	h, _ := heap.New(cells)
	return h
}

// asked is what a script answers, call by call.
func asked(h *heap.Heap, l []call) []answer {
	var all []answer
	for _, c := range l {
		all = append(all, ask(h, c))
	}
	return all
}

// known is a script, and what it answers.
type known struct {
	room int
	l    []call
	want []answer
}

func knownScripts(m maker) []known {
	var all []known
	for range 300 {
		var x known
		x.room, x.l = m.script()
		x.want = asked(withRoom(x.room), x.l)
		all = append(all, x)
	}
	return all
}

// P15.11: what is answered depends on the calls so far alone: not on what goroutines do with other heaps.
func TestSideBySide(t *testing.T) {
	all := knownScripts(newMaker(4))
	same := make(chan bool)
	for range 8 {
		go func() {
			ok := true
			for _, x := range all {
				ok = ok && slices.Equal(asked(withRoom(x.room), x.l), x.want)
			}
			same <- ok
		}()
	}
	for range 8 {
		if !<-same {
			t.Error("another answer")
		}
	}
}

// P15.11: what is answered depends on the calls so far alone: not on those of another heap between them.
func TestInTurn(t *testing.T) {
	all := knownScripts(newMaker(9))
	for i := range len(all) - 1 {
		two := []known{all[i], all[i+1]}
		heaps := []*heap.Heap{withRoom(two[0].room), withRoom(two[1].room)}
		for n := range max(len(two[0].l), len(two[1].l)) {
			for j, x := range two {
				if n >= len(x.l) {
					continue
				}
				if a := ask(heaps[j], x.l[n]); a != x.want[n] {
					t.Fatalf("%+v: %+v, not %+v", x.l[n], a, x.want[n])
				}
			}
		}
	}
}

// P15.11: asking changes nothing: a script answers the same, whatever is asked between its calls.
func TestAskingChangesNothing(t *testing.T) {
	m := newMaker(5)
	for range 300 {
		room, l := m.script()
		want := asked(withRoom(room), l)
		h := withRoom(room)
		for i, c := range l {
			for range 5 {
				v := m.thing()
				for _, q := range []call{used(), kindOf(m.number()), lenOf(m.number()), get(v, m.key()), has(v, m.key()), at(v, m.index()), typeOf(v), show(v)} {
					if one, again := ask(h, q), ask(h, q); one != again {
						t.Fatalf("%+v: %+v, then %+v", q, one, again)
					}
				}
			}
			if a := ask(h, c); a != want[i] {
				t.Fatalf("%+v: %+v, not %+v", c, a, want[i])
			}
		}
	}
}

// W8: of a Heap that is copied as a value one of the two goes on as if it were the first one.
func TestCopy(t *testing.T) {
	m := newMaker(8)
	for range 300 {
		room, l := m.script()
		want := asked(withRoom(room), l)
		h := withRoom(room)
		for i, c := range l {
			copied := *h
			h = &copied
			if a := ask(h, c); a != want[i] {
				t.Fatalf("%+v: %+v, not %+v", c, a, want[i])
			}
		}
	}
}
