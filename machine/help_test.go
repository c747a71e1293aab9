package machine_test

import (
	"reflect"
	"runtime/debug"
	"slices"
	"strings"
	"testing"
	"unsafe"

	"shuck/api"
	"shuck/erase"
	"shuck/parse"
	"shuck/run"
)

// plenty is fuel and room that no program here wants, if it ends.
const plenty = 200000

// read is the tree of a text.
func read(t *testing.T, text string) api.Tree {
	t.Helper()
	x, at, e := parse.Program([]byte(text))
	if e != api.OK {
		t.Fatalf("%s: %d, %v", text, at, e)
	}
	return x
}

// answer is what Program answers.
type answer struct {
	api.Outcome
	err api.Errno
}

func (a answer) is(b answer) bool {
	same := a.End == b.End && a.Thrown == b.Thrown && a.Steps == b.Steps && a.Cells == b.Cells && a.err == b.err
	return same && slices.Equal(a.Outputs, b.Outputs)
}

// short is an answer that can be told.
func (a answer) short() answer {
	a.Thrown = short(a.Thrown)
	var l []string
	for i, s := range a.Outputs {
		if i == 20 {
			l = append(l, "and more")
			break
		}
		l = append(l, short(s))
	}
	a.Outputs = l
	return a
}

func short(s string) string {
	if len(s) > 200 {
		return s[:100] + " .. " + s[len(s)-60:]
	}
	return s
}

// copied is an answer in memory of its own.
func (a answer) copied() answer {
	a.Thrown = strings.Clone(a.Thrown)
	a.Outputs = own(a.Outputs)
	return a
}

func own(l []string) []string {
	var all []string
	for _, s := range l {
		all = append(all, strings.Clone(s))
	}
	return all
}

// roomy is a list with spare room, in memory of its own.
func roomy[T any](l []T, spare T) []T {
	all := append(make([]T, 0, len(l)+3), l...)
	for i := range 3 {
		all[:cap(all)][len(l)+i] = spare
	}
	return all
}

// whole is a list with its spare room.
func whole[T any](l []T) []T { return l[:cap(l)] }

// handed is what Program is handed, with spare room, in memory of its own.
type handed struct {
	nodes  []api.Node
	inputs []string
}

func newHanded(x api.Tree, inputs []string) handed {
	h := handed{roomy(x.Nodes, api.Node{Kind: 99, Text: "spare"}), roomy(own(inputs), "spare")}
	for i := range h.nodes {
		n := &h.nodes[i]
		n.Text, n.Kids = strings.Clone(n.Text), roomy(n.Kids, -7)
	}
	return h
}

func (h handed) program(f face, fuel, cells int) answer {
	return f.program(api.Tree{Nodes: h.nodes}, h.inputs, fuel, cells)
}

// everything is all that was handed in, spare room too, in memory of its own.
func (h handed) everything() handed {
	all := handed{slices.Clone(whole(h.nodes)), own(whole(h.inputs))}
	for i := range all.nodes {
		n := &all.nodes[i]
		n.Text, n.Kids = strings.Clone(n.Text), slices.Clone(whole(n.Kids))
	}
	return all
}

// spoilt writes over a text's bytes; it tells whether that could be done.
func spoilt(s string) (ok bool) {
	defer debug.SetPanicOnFault(debug.SetPanicOnFault(true))
	defer func() { ok = recover() == nil }()
	b := unsafe.Slice(unsafe.StringData(s), len(s))
	for i := range b {
		b[i] ^= 0x15
	}
	return true
}

// spoil writes over an answer, its spare room too; it tells whether that could be done.
func (a answer) spoil() bool {
	ok := spoilt(a.Thrown)
	for _, s := range a.Outputs {
		ok = spoilt(s) && ok
	}
	for i := range whole(a.Outputs) {
		whole(a.Outputs)[i] = "spoilt"
	}
	return ok
}

// program calls a Program twice, and fails, unless what was handed in stays what it was, also when the answer is written over, and both answers are the same.
func program(t *testing.T, f face, x api.Tree, inputs []string, fuel, cells int) answer {
	t.Helper()
	h := newHanded(x, inputs)
	before := h.everything()
	got := h.program(f, fuel, cells)
	want := got.copied()
	if !got.spoil() {
		t.Fatalf("the answer is not new memory: %+v", want.short())
	}
	if !reflect.DeepEqual(h.everything(), before) {
		t.Fatalf("what was handed in is changed: %v %q", short(told(x)), inputs)
	}
	if again := h.program(f, fuel, cells); !again.is(want) {
		t.Fatalf("%+v, then %+v of %s", want.short(), again.short(), short(told(x)))
	}
	want.bounds(t, fuel, cells)
	return want
}

// bounds looks at what holds of every answer.
func (a answer) bounds(t *testing.T, fuel, cells int) {
	t.Helper()
	nothing := answer{err: a.err}
	switch {
	case a.err != api.OK:
		if !a.is(nothing) {
			t.Fatalf("beside an error: %+v", a)
		}
	case a.End < api.EndDone || a.End > api.EndDeep, a.Thrown != "" && a.End != api.EndThrow, a.Steps > fuel, a.End == api.EndFuel && a.Steps != fuel, a.Cells > cells:
		t.Fatalf("%d steps, %d cells: %+v", fuel, cells, a.short())
	}
}

// agreesAs is what a Program answers, held against the slow reading.
func agreesAs(t *testing.T, f face, what string, x api.Tree, inputs []string, fuel, cells int) answer {
	t.Helper()
	got := program(t, f, x, inputs, fuel, cells)
	want, _ := f.slowly(x, inputs, fuel, cells)
	if !got.is(want) {
		t.Fatalf("%s, %q, %d steps, %d cells, %s:\n%+v; the slow reading says\n%+v", what, inputs, fuel, cells, f.name, got.short(), want.short())
	}
	return got
}

// agrees is what becomes of a program: of a plain one both Programs agree with the slow reading, so also with one another; of another one chapter 17's does, and with chapter 16's of the erased tree.
func agrees(t *testing.T, what string, x api.Tree, inputs []string, fuel, cells int) answer {
	t.Helper()
	got := agreesAs(t, typed(), what, x, inputs, fuel, cells)
	if isPlain(x) {
		return agreesAs(t, plain(), what, x, inputs, fuel, cells)
	}
	if got.err == api.OK {
		endsAsErased(t, what, x, inputs, fuel, cells, got)
	}
	return got
}

// endsAsErased holds what a typed program does against what the erased one does: with as much, the outputs of one are the first ones of the other's.
func endsAsErased(t *testing.T, what string, x api.Tree, inputs []string, fuel, cells int, got answer) {
	t.Helper()
	left := erased(t, x)
	o, e := run.Program(left, inputs, fuel, cells)
	if e != api.OK || !first(o.Outputs, got.Outputs) && !first(got.Outputs, o.Outputs) {
		t.Fatalf("%s, %q, %d steps, %d cells:\n%+v; erased\n%+v %v", what, inputs, fuel, cells, got.short(), answer{Outcome: o}.short(), e)
	}
	if got.End == api.EndFuel || got.End == api.EndHeap {
		return
	}
	o, e = run.Program(left, inputs, min(api.MaxFuel, 20*fuel+1000), min(api.MaxCells, 2*cells+1000))
	if e != api.OK || o.End != got.End || o.Thrown != got.Thrown || !slices.Equal(o.Outputs, got.Outputs) {
		t.Fatalf("%s, %q, %d steps, %d cells:\n%+v; erased, with enough,\n%+v %v", what, inputs, fuel, cells, got.short(), answer{Outcome: o}.short(), e)
	}
}

// erased is a typed program as a plain one.
func erased(t *testing.T, x api.Tree) api.Tree {
	t.Helper()
	left, n, e := erase.Program(x)
	if e != api.OK {
		t.Fatal(n, e)
	}
	return left
}

// does is a program, its end, what is thrown, and its outputs.
type does struct {
	text   string
	end    int
	thrown string
	out    string // one output a line
}

// done is a program that is done to its end.
func done(text, out string) does { return does{text: text, end: api.EndDone, out: out} }

// throws is one that ends with something thrown.
func throws(text, thrown, out string) does { return does{text, api.EndThrow, thrown, out} }

// ends is one that ends otherwise.
func ends(end int, text, out string) does { return does{text: text, end: end, out: out} }

func lines(l []string) string { return strings.Join(l, "\n") }

// gives holds programs against what they do, with the lines p and q as inputs; the slow reading is asked, too, and with less fuel and fewer cells.
func gives(t *testing.T, l ...does) {
	t.Helper()
	for _, d := range l {
		x := read(t, d.text)
		inputs := []string{"p", "q"}
		got := agrees(t, d.text, x, inputs, plenty, plenty)
		if got.err != api.OK || got.End != d.end || got.Thrown != d.thrown || lines(got.Outputs) != d.out {
			t.Errorf("%s:\n%+v, not\n%+v", d.text, got.short(), d)
			continue
		}
		less(t, d.text, x, inputs, got)
	}
}

// less holds a program against the slow reading with any fuel and with any cells up to what it wants, or to some bound.
func less(t *testing.T, what string, x api.Tree, inputs []string, all answer) {
	t.Helper()
	for fuel := range min(all.Steps, 60) {
		agrees(t, what, x, inputs, fuel, plenty)
	}
	agrees(t, what, x, inputs, all.Steps, plenty)
	agrees(t, what, x, inputs, all.Steps+1, plenty)
	if all.End == api.EndHeap {
		return
	}
	for cells := range min(all.Cells, 40) {
		agrees(t, what, x, inputs, plenty, cells)
	}
	agrees(t, what, x, inputs, plenty, all.Cells)
	agrees(t, what, x, inputs, plenty, all.Cells+1)
}

// isOver tells whether a run has ended for want of cells at so many steps, with these outputs.
func (a answer) isOver(steps, cells int, outputs ...string) bool {
	return a.err == api.OK && a.End == api.EndHeap && a.Steps == steps && a.Cells == cells && slices.Equal(a.Outputs, outputs)
}
