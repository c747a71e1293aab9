package heap_test

import (
	"runtime/debug"
	"slices"
	"strings"
	"testing"
	"unsafe"

	"shuck/api"
	"shuck/heap"
)

func num(n int) api.Value      { return api.Value{Kind: api.VNumber, Num: n} }
func words(s string) api.Value { return api.Value{Kind: api.VString, Text: s} }
func ref(n int) api.Value      { return api.Value{Kind: api.VRef, Num: n} }
func undefined() api.Value     { return api.Value{} }
func null() api.Value          { return api.Value{Kind: api.VNull} }
func yes() api.Value           { return api.Value{Kind: api.VBool, Num: 1} }
func no() api.Value            { return api.Value{Kind: api.VBool} }

const (
	noMembers = "TypeError: no members"
	noIn      = "TypeError: in"
	noIndex   = "TypeError: index"
)

// call is a call of a Heap: its name, and what it is handed.
type call struct {
	name         string
	v, index, to api.Value
	key          string
	kind, ref    int // ref: a proto, too
}

func mk(kind, proto int) call          { return call{name: "Make", kind: kind, ref: proto} }
func kindOf(ref int) call              { return call{name: "Kind", ref: ref} }
func get(v api.Value, key string) call { return call{name: "Get", v: v, key: key} }
func set(v api.Value, k string, to api.Value) call {
	return call{name: "Set", v: v, key: k, to: to}
}
func has(v api.Value, key string) call { return call{name: "Has", v: v, key: key} }
func at(v, index api.Value) call       { return call{name: "At", v: v, index: index} }
func put(v, index, to api.Value) call  { return call{name: "Put", v: v, index: index, to: to} }
func push(ref int, v api.Value) call   { return call{name: "Push", ref: ref, v: v} }
func lenOf(ref int) call               { return call{name: "Len", ref: ref} }
func typeOf(v api.Value) call          { return call{name: "Typeof", v: v} }
func show(v api.Value) call            { return call{name: "Show", v: v} }
func used() call                       { return call{name: "Used"} }

// answer is what a call answers.
type answer struct {
	v     api.Value
	text  string // what is thrown; of Typeof and Show what they say
	n     int
	is    bool
	fault int
}

func told(v api.Value) answer   { return answer{v: v} }
func done() answer              { return answer{} }
func is(b bool) answer          { return answer{is: b} }
func count(n int) answer        { return answer{n: n} }
func says(s string) answer      { return answer{text: s} }
func throws(text string) answer { return answer{text: text, fault: api.FaultThrow} }
func full() answer              { return answer{fault: api.FaultFull} }
func noNumber(fault int) answer { return answer{n: -1, fault: fault} }

// ask calls a Heap.
func ask(h *heap.Heap, c call) answer {
	var a answer
	switch c.name {
	case "Make":
		a.n, a.fault = h.Make(c.kind, c.ref)
	case "Kind":
		a.n = h.Kind(c.ref)
	case "Get":
		a.v, a.text, a.fault = h.Get(c.v, c.key)
	case "Set":
		a.text, a.fault = h.Set(c.v, c.key, c.to)
	case "Has":
		a.is, a.text, a.fault = h.Has(c.v, c.key)
	case "At":
		a.v, a.text, a.fault = h.At(c.v, c.index)
	case "Put":
		a.text, a.fault = h.Put(c.v, c.index, c.to)
	case "Push":
		a.n, a.fault = h.Push(c.ref, c.v)
	case "Len":
		a.n = h.Len(c.ref)
	case "Typeof":
		a.text = h.Typeof(c.v)
	case "Show":
		a.text = h.Show(c.v)
	case "Used":
		a.n = h.Used()
	default:
		panic(c.name)
	}
	return a
}

// own is a call whose texts lie in memory of their own.
func (c call) own() call {
	for _, s := range c.texts() {
		*s = strings.Clone(*s)
	}
	return c
}

func (c *call) texts() []*string { return []*string{&c.v.Text, &c.index.Text, &c.to.Text, &c.key} }

// spoilt writes over a text's bytes; it tells whether that could be done.
func spoilt(s string) (ok bool) {
	defer debug.SetPanicOnFault(debug.SetPanicOnFault(true))
	defer func() { ok = recover() == nil }()
	b := unsafe.Slice(unsafe.StringData(s), len(s))
	for i := range b {
		b[i] ^= 0x15
	}
	return true
}

// short is a text that can be told.
func short(s string) string {
	if len(s) > 200 {
		return s[:100] + " .. " + s[len(s)-60:]
	}
	return s
}

func (c call) short() call {
	for _, s := range c.texts() {
		*s = short(*s)
	}
	return c
}

func (a answer) short() answer {
	a.v.Text, a.text = short(a.v.Text), short(a.text)
	return a
}

// bench is a heap, one beside it to which the same is done, and a slow reading of the chapter.
type bench struct {
	t       *testing.T
	h, twin *heap.Heap
	slow    *slowHeap
	keys    []string // what is asked of each thing behind each call
}

func begin(t *testing.T, cells int) *bench {
	t.Helper()
	b := &bench{t: t, slow: &slowHeap{room: cells}, keys: []string{"length", "no such"}}
	for _, h := range []**heap.Heap{&b.h, &b.twin} {
		var e api.Errno
		if *h, e = heap.New(cells); e != api.OK || *h == nil {
			t.Fatalf("New(%d): %v, %v", cells, *h, e)
		}
	}
	return b
}

// do does a call to both heaps, holds it against the slow reading, spoils what was handed in and what was answered, and asks for everything again.
func (b *bench) do(c call) answer {
	b.t.Helper()
	want := b.slow.answer(c)
	for _, h := range []*heap.Heap{b.h, b.twin} {
		b.once(h, c, want)
	}
	for _, key := range []string{c.key, c.index.Text} {
		if !slices.Contains(b.keys, key) {
			b.keys = append(b.keys, key)
		}
	}
	b.look()
	return want
}

func (b *bench) once(h *heap.Heap, c call, want answer) {
	b.t.Helper()
	in := c.own()
	got := ask(h, in)
	if got != want {
		b.t.Fatalf("%+v: %+v, not %+v", c.short(), got.short(), want.short())
	}
	if in != c {
		b.t.Fatalf("%+v: what was handed in is changed: %+v", c.short(), in.short())
	}
	for _, s := range []string{got.v.Text, got.text, in.v.Text, in.index.Text, in.to.Text, in.key} {
		if !spoilt(s) {
			b.t.Fatalf("%+v: %q is not new memory", c.short(), short(s))
		}
	}
	if changes := slices.Contains([]string{"Make", "Set", "Put", "Push"}, c.name); !changes {
		b.again(h, c, want)
	}
}

// gives does a call of which it is known what it answers.
func (b *bench) gives(c call, want answer) {
	b.t.Helper()
	if got := b.do(c); got != want {
		b.t.Fatalf("%+v: %+v, not %+v", c.short(), got.short(), want.short())
	}
}

// lay makes a thing, and tells the value that stands for it.
func (b *bench) lay(kind, proto int) api.Value {
	b.t.Helper()
	a := b.do(mk(kind, proto))
	if a.fault != api.FaultNone {
		b.t.Fatalf("no thing is laid: %+v", a)
	}
	return ref(a.n)
}

// list lays an array of values.
func (b *bench) list(l ...api.Value) api.Value {
	b.t.Helper()
	v := b.lay(api.CArray, -1)
	for i, x := range l {
		b.gives(push(v.Num, x), count(i+1))
	}
	return v
}

// member is a key and its value.
type member struct {
	key string
	v   api.Value
}

// thing lays one that has members.
func (b *bench) thing(kind, proto int, l ...member) api.Value {
	b.t.Helper()
	v := b.lay(kind, proto)
	for _, m := range l {
		b.gives(set(v, m.key, m.v), done())
	}
	return v
}

// look asks both heaps for everything that they may tell.
func (b *bench) look() {
	b.t.Helper()
	b.alike(used())
	for n := -1; n <= len(b.slow.things); n++ {
		b.alike(kindOf(n))
		b.alike(lenOf(n))
		b.alike(typeOf(ref(n)))
		b.alike(show(ref(n)))
		for _, key := range b.keys {
			b.alike(get(ref(n), key))
			b.alike(has(ref(n), key))
		}
		for i := -1; i <= b.slow.long(n); i++ {
			b.alike(at(ref(n), num(i)))
		}
	}
}

func (b *bench) alike(c call) {
	b.t.Helper()
	want := b.slow.answer(c)
	for _, h := range []*heap.Heap{b.h, b.twin} {
		b.again(h, c, want)
	}
}

func (b *bench) again(h *heap.Heap, c call, want answer) {
	b.t.Helper()
	if got := ask(h, c); got != want {
		b.t.Fatalf("%+v asked again: %+v, not %+v", c.short(), got.short(), want.short())
	}
}
