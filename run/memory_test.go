package run_test

import (
	"strings"
	"testing"
	"unsafe"

	"shuck/api"
	"shuck/run"
)

// inMemory tells whether two texts share bytes.
func inMemory(s, of string) bool {
	if s == "" || of == "" {
		return false
	}
	x, y := uintptr(unsafe.Pointer(unsafe.StringData(s))), uintptr(unsafe.Pointer(unsafe.StringData(of)))
	return x < y+uintptr(len(of)) && y < x+uintptr(len(s))
}

// tellers are programs that tell texts of the tree and of the input, and what throws: each text alone, and more than once.
func tellers() []string {
	return []string{
		`print("abc"); print("abc"); print("abc", "def"); throw "abc";`,
		`const s = "abc"; print(s); print(s); print([s]); print({s: s}); throw s;`,
		"const x = input(); print(x); print(x, x); print(x); print([x]); throw x;",
		"print(input()); print(input()); throw input();",
		"print(`abc`); print(`${\"abc\"}`); const t = `a${1}`; print(t); print(t); throw t;",
		"print(true); print(true); print(null); print(undefined); print(print); print(input); print(typeof 1); print(typeof 1); throw typeof 1;",
		"try { null.a; } catch (e) { print(e); print(e); } try { (1)(); } catch (e) { print(e); } (1)();",
		"for (const x of \"ab\") { print(x); print(x); } for (const x of input()) { print(x); } throw input();",
		"print(); print(\"\"); print(1); print(1); print(12345); throw 12345;",
		"const o = {}; o[\"abc\"] = \"def\"; print(o.abc); print(o.abc); print(o); for (const c of [o.abc]) { print(c); throw c; }",
		"f(); const abc = 1; function f() { abc; }",
		"f(); const abc = 1; function f() { try { abc; } catch (e) { print(e); throw e; } }",
	}
}

// P16.5: texts that are answered share no memory with what was handed in, nor with one another.
func TestTextsAreNew(t *testing.T) {
	for _, text := range tellers() {
		x := read(t, text)
		inputs := []string{strings.Repeat("x", 30), "second", "third", "fourth"}
		var old []string
		old = append(old, inputs...)
		for _, n := range x.Nodes {
			old = append(old, n.Text)
		}
		for range 2 {
			o, e := run.Program(x, inputs, plenty, plenty)
			if e != api.OK {
				t.Fatal(text, e)
			}
			for _, s := range append(o.Outputs, o.Thrown) {
				for _, other := range old {
					if inMemory(s, other) {
						t.Fatalf("%s: %q lies in %q", text, s, other)
					}
				}
				old = append(old, s)
			}
		}
	}
}

// P16.5: what was answered stays what it was, whatever becomes of what was handed in, and of another answer.
func TestAnswersStay(t *testing.T) {
	for _, text := range tellers() {
		h := newHanded(read(t, text), []string{"first", "second", "third"})
		got, other := h.program(plenty, plenty), h.program(plenty, plenty)
		want := got.copied()
		other.spoil()
		for i := range h.nodes {
			spoilt(h.nodes[i].Text)
			for j := range h.nodes[i].Kids {
				h.nodes[i].Kids[j] = -1
			}
			h.nodes[i] = api.Node{}
		}
		for i := range h.inputs {
			spoilt(h.inputs[i])
			h.inputs[i] = "spoilt"
		}
		if !got.is(want) {
			t.Errorf("%s: %+v, it was %+v", text, got, want)
		}
	}
}

// P16.5: nothing is kept from one call to the next: what is handed in may be another thing in the same memory.
func TestNothingKept(t *testing.T) {
	text := []byte("abc")
	x := read(t, `print("abc", input());`)
	for i := range x.Nodes {
		if x.Nodes[i].Text == "abc" {
			x.Nodes[i].Text = unsafe.String(&text[0], len(text))
		}
	}
	for _, s := range []string{"abc", "xyz", "abc"} {
		copy(text, s)
		if o, e := run.Program(x, []string{unsafe.String(&text[0], 2)}, plenty, plenty); e != api.OK || lines(o.Outputs) != s+" "+s[:2] {
			t.Error(o, e)
		}
	}
}
