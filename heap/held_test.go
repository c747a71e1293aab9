package heap_test

import (
	"runtime"
	"strconv"
	"strings"
	"testing"

	"shuck/api"
	"shuck/heap"
)

// P15.3, P15.6, P15.7: long texts, the same ones in many cells, set again and again.
func TestLongTextsInManyCells(t *testing.T) {
	for _, size := range []int{255, 256, 257, 3000} {
		m := newMaker(uint64(size))
		texts := []string{strings.Repeat("a", size), strings.Repeat("b", size), strings.Repeat("a", size-1) + "b", strings.Repeat("a", size-1)}
		b := begin(t, 60)
		o, l, p := b.lay(api.CObject, -1), b.lay(api.CArray, -1), b.lay(api.CClass, -1)
		for range 120 {
			v := pick(m, []api.Value{words(pick(m, texts)), words(pick(m, texts)), words("short"), num(1), undefined()})
			switch m.choose(5) {
			case 0, 1:
				b.do(set(pick(m, []api.Value{o, p}), pick(m, []string{"a", "b", "c"}), v))
			case 2:
				b.do(put(l, num(m.choose(8)), v))
			case 3:
				b.do(put(o, words(pick(m, texts)), v))
			case 4:
				b.do(push(l.Num, v))
			}
		}
	}
}

// W6: texts that are told are new memory, also where many cells have the same long one.
func TestLongAnswersAreNew(t *testing.T) {
	h := withRoom(50)
	long := strings.Repeat("long ", 100)
	h.Make(api.CArray, -1)
	h.Make(api.CObject, -1)
	out := []string{long}
	for i := range 3 {
		h.Push(0, words(long))
		h.Set(ref(1), "k"+strconv.Itoa(i), words(long))
	}
	for range 2 {
		for i := range 3 {
			at, get := ask(h, at(ref(0), num(i))), ask(h, get(ref(1), "k"+strconv.Itoa(i)))
			if at.v != words(long) || get.v != words(long) {
				t.Fatal(at.short(), get.short())
			}
			for _, s := range out {
				if inMemory(at.v.Text, s) || inMemory(get.v.Text, s) || inMemory(at.v.Text, get.v.Text) {
					t.Fatal("shared")
				}
			}
			out = append(out, at.v.Text, get.v.Text)
		}
	}
}

// inUse is how many bytes are in use behind something that was done.
func inUse() int {
	var m runtime.MemStats
	runtime.GC()
	runtime.ReadMemStats(&m)
	return int(m.HeapAlloc)
}

// W1: a text as long as one may be, in very many cells, takes its memory once; one that no cell has any more takes none.
func TestLongTextsTakeLittle(t *testing.T) {
	const most = 100 << 20
	long := strings.Repeat("x", api.MaxBytes)
	h, _ := heap.New(api.MaxCells)
	h.Make(api.CArray, -1)
	h.Make(api.CObject, -1)
	before := inUse()
	for range 100000 {
		h.Push(0, words(long))
	}
	if n := inUse() - before; n > most {
		t.Errorf("the same text: %d bytes", n)
	}
	for i := range 20000 {
		h.Set(ref(1), "a", words(long[8:]+strconv.Itoa(i)))
		h.Put(ref(0), num(7), words(long[9:]+strconv.Itoa(i)))
	}
	if n := inUse() - before; n > most {
		t.Errorf("others one behind the other: %d bytes", n)
	}
	for i := range 100000 {
		h.Put(ref(0), num(i), num(i))
	}
	h.Set(ref(1), "a", num(1))
	if a := ask(h, at(ref(0), num(99999))); a != told(num(99999)) {
		t.Error(a)
	}
	runtime.KeepAlive(h)
}
