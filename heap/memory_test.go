package heap_test

import (
	"strings"
	"testing"
	"unsafe"

	"shuck/api"
)

// inMemory tells whether two texts share bytes.
func inMemory(s, of string) bool {
	if s == "" || of == "" {
		return false
	}
	x, y := uintptr(unsafe.Pointer(unsafe.StringData(s))), uintptr(unsafe.Pointer(unsafe.StringData(of)))
	return x < y+uintptr(len(of)) && y < x+uintptr(len(s))
}

// W6: a text that is answered shares no memory with one that was handed in, nor with another answer.
func TestTextsAreNew(t *testing.T) {
	b := begin(t, 50)
	o, l := b.lay(api.CObject, -1), b.lay(api.CArray, -1)
	f := b.lay(api.CFunction, o.Num)
	whole := strings.Repeat("abcdeé", 20)
	key, long := whole[:5], whole[7:40]
	var in, out []string
	in = append(in, whole)
	tell := func(c call) {
		a := ask(b.h, c)
		out = append(out, a.v.Text, a.text)
	}
	for range 3 {
		for _, c := range []call{
			set(o, key, words(long)), set(o, whole[1:2], words(whole[:1])), set(o, key, words(whole[:6])), set(f, key, words(long)), push(l.Num, words(long)), put(l, num(0), words(whole)), put(o, words(key), words(key)),
			get(o, key), get(f, key), get(f, whole[1:2]), at(o, words(key)), at(l, num(0)), at(l, num(1)), at(words(whole), num(5)), at(words(whole), num(0)), at(words(whole[:1]), num(0)), at(words("\xff"), num(0)),
			get(undefined(), key), has(num(1), key), at(o, null()), at(null(), null()), set(l, key, null()), put(l, num(99), null()), put(l, null(), null()), put(num(1), words(key), null()),
			typeOf(o), typeOf(l), typeOf(f), typeOf(null()), typeOf(undefined()), typeOf(yes()), typeOf(num(7)), typeOf(words(whole)),
			show(o), show(l), show(f), show(words(whole)), show(words(whole[:1])), show(null()), show(yes()), show(num(7)), show(num(12345)), show(ref(99)), show(ref(-1)),
		} {
			tell(c)
		}
	}
	b.h.Push(l.Num, words(strings.Repeat("a", api.MaxBytes)))
	tell(show(l))
	tell(show(l))
	for i, s := range out {
		for _, other := range append(in, out[:i]...) {
			if inMemory(s, other) {
				t.Errorf("%q lies in %q", short(s), short(other))
			}
		}
	}
}

// W6: what is handed in is not kept: a key neither, with which a member is set again.
func TestNothingKept(t *testing.T) {
	b := begin(t, 50)
	o, l := b.lay(api.CObject, -1), b.lay(api.CArray, -1)
	bytes := []byte("key value")
	all := unsafe.String(&bytes[0], len(bytes))
	key, value := all[:3], all[4:]
	h := b.h
	for range 2 {
		copy(bytes, "key value")
		h.Set(o, key, words(value))
		h.Put(o, words(key), words(value))
		h.Push(l.Num, words(value))
		h.Put(l, num(0), words(value))
		h.Has(o, key)
		h.Get(o, key)
		copy(bytes, "xxxxxxxxx")
		for _, x := range []struct {
			c    call
			want answer
		}{
			{get(o, "key"), told(words("value"))}, {has(o, "key"), is(true)}, {has(o, "xxx"), is(false)}, {at(l, num(0)), told(words("value"))}, {show(o), says(`{key: "value"}`)},
		} {
			if got := ask(h, x.c); got != x.want {
				t.Errorf("%+v: %+v, not %+v", x.c, got, x.want)
			}
		}
	}
}

// W3, W5: a fault has nothing beside it, and no answer has a field that its kind has not; by chance.
func TestFields(t *testing.T) {
	m := newMaker(6)
	for range 1000 {
		room, l := m.script()
		h := withRoom(room)
		for _, c := range l {
			a := ask(h, c)
			worded := a.text != "" && c.name != "Typeof" && c.name != "Show"
			throws := a.fault == api.FaultThrow && c.name != "Push"
			if !fields(a.v) || worded != throws || a.fault != api.FaultNone && (a.v != undefined() || a.is || a.n != 0 && a.n != -1) {
				t.Fatalf("%+v: %+v", c, a)
			}
		}
	}
}

func fields(v api.Value) bool {
	switch v.Kind {
	case api.VBool:
		return v.Text == "" && (v.Num == 0 || v.Num == 1)
	case api.VNumber:
		return v.Text == "" && v.Num >= -api.MaxNumber && v.Num <= api.MaxNumber
	case api.VString:
		return v.Num == 0
	case api.VRef:
		return v.Text == "" && v.Num >= 0
	}
	return v == undefined() || v == null()
}
