package heap_test

import (
	"math"
	"math/rand/v2"
	"strings"
	"testing"

	"shuck/api"
)

// maker makes calls by numbers that choose.
type maker struct {
	choose func(n int) int // 0 to n - 1
}

func newMaker(seed uint64) maker { return maker{rand.New(rand.NewPCG(seed, 15)).IntN} }

func pick[T any](m maker, l []T) T { return l[m.choose(len(l))] }

// number is mostly one that a thing may have, or at which an array may have a value.
func (m maker) number() int {
	switch m.choose(12) {
	case 0:
		return pick(m, farNumbers())
	case 1:
		return m.choose(60) - 10
	}
	return m.choose(8)
}

// key is mostly one of few, so that it is often there.
func (m maker) key() string {
	if m.choose(10) == 0 {
		return pick(m, []string{"", "length", "\xff", "é", "0", "1", "\x00", "a: 1"})
	}
	return pick(m, []string{"a", "b", "c", "length"})
}

func (m maker) text() string {
	var s strings.Builder
	for range m.choose(4) {
		s.WriteString(pick(m, []string{"a", "b", "é", "€", "\U0001f600", "\xff", "\xe2\x82", "\n", "\"", "\x01"}))
	}
	return s.String()
}

// value is of a kind, mostly a thing, and mostly with the fields that it has alone.
func (m maker) value() api.Value {
	v := api.Value{Kind: pick(m, []int{api.VUndefined, api.VNull, api.VBool, api.VNumber, api.VNumber, api.VString, api.VString, api.VRef, api.VRef, api.VRef, api.VRef})}
	if m.choose(25) == 0 {
		v.Kind = pick(m, []int{6, -1, math.MinInt, math.MaxInt})
	}
	all := m.choose(15) == 0
	if all || v.Kind == api.VNumber || v.Kind == api.VRef {
		v.Num = m.number()
	}
	if v.Kind == api.VBool {
		v.Num = m.choose(2)
	}
	if all || v.Kind == api.VString {
		v.Text = m.text()
	}
	return v
}

// thing is mostly a value that stands for one.
func (m maker) thing() api.Value {
	if m.choose(6) == 0 {
		return m.value()
	}
	return ref(m.choose(10))
}

// index is a number, a text, seldom something else.
func (m maker) index() api.Value {
	switch m.choose(7) {
	case 0:
		return m.value()
	case 1, 2, 3:
		return words(m.key())
	}
	return num(m.number())
}

// proto is mostly one of the last things: so many stand behind one another.
func (m maker) proto() int { return m.number() + m.choose(4) - 1 }

// call is any call; at first things are made more often.
func (m maker) call(ahead int) call {
	if ahead < 5 || m.choose(8) == 0 {
		if m.choose(12) == 0 {
			return mk(pick(m, noKinds()), m.proto())
		}
		return mk(1+m.choose(4), m.proto())
	}
	switch m.choose(14) {
	case 0, 1, 2:
		return set(m.thing(), m.key(), m.value())
	case 3, 4:
		return put(m.thing(), m.index(), m.value())
	case 5, 6:
		return push(m.number(), m.value())
	case 7:
		return get(m.thing(), m.key())
	case 8:
		return has(m.thing(), m.key())
	case 9:
		return at(m.thing(), m.index())
	case 10:
		return typeOf(m.value())
	case 11:
		return show(m.value())
	case 12:
		return lenOf(m.number())
	}
	return kindOf(m.number())
}

// script is calls, one behind the other, of a heap with so much room.
func (m maker) script() (room int, l []call) {
	room = m.choose(60)
	for i := range 10 + m.choose(50) {
		l = append(l, m.call(i))
	}
	return room, l
}

// P15.1 to P15.9, P15.11: scripts by chance, with all that can be asked behind each call.
func TestByChance(t *testing.T) {
	m := newMaker(1)
	type sort struct {
		name  string
		fault int
	}
	had := map[sort]int{}
	for range 700 {
		room, l := m.script()
		b := begin(t, room)
		for _, c := range l {
			had[sort{c.name, b.do(c).fault}]++
		}
	}
	for _, name := range []string{"Make", "Kind", "Get", "Set", "Has", "At", "Put", "Push", "Len", "Typeof", "Show"} {
		for _, fault := range []int{api.FaultNone, api.FaultThrow, api.FaultFull} {
			throws := strings.Contains("Get Set Has At Put Push", name)
			takes := strings.Contains("Make Set Put Push", name)
			can := fault == api.FaultNone || fault == api.FaultThrow && throws || fault == api.FaultFull && takes
			if n := had[sort{name, fault}]; n < 30 && can || n > 0 && !can {
				t.Errorf("%s with the fault %d: %d", name, fault, n)
			}
		}
	}
}
