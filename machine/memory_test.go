package machine_test

import (
	"strings"
	"testing"
	"unsafe"

	"shuck/api"
)

// inMemory tells whether two texts share bytes.
func inMemory(s, of string) bool {
	if s == "" || of == "" {
		return false
	}
	x, y := uintptr(unsafe.Pointer(unsafe.StringData(s))), uintptr(unsafe.Pointer(unsafe.StringData(of)))
	return x < y+uintptr(len(of)) && y < x+uintptr(len(s))
}

// typedTellers are programs that tell texts of what is not plain.
func typedTellers() []string {
	return []string{
		`enum E { abc = "def" } print(E.abc); print(E.abc, E); print([E.abc]); throw E.abc;`,
		`const enum E { abc = "def" } print(E.abc); print(E.abc); const s = E.abc; print(s); throw E.abc;`,
		`namespace abc { export const def = "def"; export enum E { ghi } print(def); } print(abc); print(abc.def); throw abc.def as any;`,
		`class C { constructor(public abc: any) {} } print(new C("abc")); print(new C(input()).abc); throw new C(input()).abc!;`,
		`f(); enum abc {} function f() { abc; }`,
		`f(); namespace abc {} function f() { try { abc; } catch (e) { print(e); throw e; } }`,
		`interface abc { def: "ghi" } type def = "abc"; print("abc" as def);`,
	}
}

// allTellers are those programs, with the Programs that take them.
func allTellers() map[string][]face {
	l := map[string][]face{}
	for _, text := range tellers() {
		l[text] = both()
	}
	for _, text := range typedTellers() {
		l[text] = []face{typed()}
	}
	return l
}

// tellers are programs that tell texts of the tree and of the input, and what throws: each text alone, and more than once.
func tellers() []string {
	return []string{
		`print("abc"); print("abc"); print("abc", "def"); throw "abc";`,
		`const s = "abc"; print(s); print(s); print([s]); print({s: s}); throw s;`,
		"const x = input(); print(x); print(x, x); print(x); print([x]); throw x;",
		"print(input()); print(input()); throw input();",
		"print(`abc`); print(`${\"abc\"}`); const t = `a${1}`; print(t); print(t); throw t;",
		"print(true); print(true); print(null); print(undefined); print(print); print(input); print(typeof 1); print(typeof 1); throw typeof 1;",
		"try { null.a; } catch (e) { print(e); print(e); } try { (1)(); } catch (e) { print(e); } (1)();",
		"for (const x of \"ab\") { print(x); print(x); } for (const x of input()) { print(x); } throw input();",
		"print(); print(\"\"); print(1); print(1); print(12345); throw 12345;",
		"const o = {}; o[\"abc\"] = \"def\"; print(o.abc); print(o.abc); print(o); for (const c of [o.abc]) { print(c); throw c; }",
		"f(); const abc = 1; function f() { abc; }",
		"f(); const abc = 1; function f() { try { abc; } catch (e) { print(e); throw e; } }",
	}
}

// P16.5, P17.4: texts that are answered share no memory with what was handed in, nor with one another.
func TestTextsAreNew(t *testing.T) {
	for text, faces := range allTellers() {
		x := read(t, text)
		inputs := []string{strings.Repeat("x", 30), "second", "third", "fourth"}
		var old []string
		old = append(old, inputs...)
		for _, n := range x.Nodes {
			old = append(old, n.Text)
		}
		for _, f := range append(faces, faces...) {
			got := f.program(x, inputs, plenty, plenty)
			if got.err != api.OK {
				t.Fatal(text, got.err)
			}
			for _, s := range append(got.Outputs, got.Thrown) {
				for _, other := range old {
					if inMemory(s, other) {
						t.Fatalf("%s of %s: %q lies in %q", f.name, text, s, other)
					}
				}
				old = append(old, s)
			}
		}
	}
}

// P16.5, P17.4: what was answered stays what it was, whatever becomes of what was handed in, and of another answer.
func TestAnswersStay(t *testing.T) {
	for text, faces := range allTellers() {
		for _, f := range faces {
			h := newHanded(read(t, text), []string{"first", "second", "third"})
			got, other := h.program(f, plenty, plenty), h.program(f, plenty, plenty)
			want := got.copied()
			other.spoil()
			h.spoil()
			if !got.is(want) {
				t.Errorf("%s of %s: %+v, it was %+v", f.name, text, got, want)
			}
		}
	}
}

// spoil writes over all that was handed in.
func (h handed) spoil() {
	for i := range h.nodes {
		spoilt(h.nodes[i].Text)
		for j := range h.nodes[i].Kids {
			h.nodes[i].Kids[j] = -1
		}
		h.nodes[i] = api.Node{}
	}
	for i := range h.inputs {
		spoilt(h.inputs[i])
		h.inputs[i] = "spoilt"
	}
}

// P16.5, P17.4: nothing is kept from one call to the next: what is handed in may be another thing in the same memory.
func TestNothingKept(t *testing.T) {
	for text, faces := range map[string][]face{
		`print("abc", input());`:                                                   both(),
		`enum E { A = "abc" } print(E.A, input());`:                                {typed()},
		`namespace N { export const a: any = "abc"; } print(N.a as any, input());`: {typed()},
	} {
		bytes := []byte("abc")
		x := read(t, text)
		for i := range x.Nodes {
			if x.Nodes[i].Text == "abc" {
				x.Nodes[i].Text = unsafe.String(&bytes[0], len(bytes))
			}
		}
		for _, f := range faces {
			for _, s := range []string{"abc", "xyz", "abc"} {
				copy(bytes, s)
				if got := f.program(x, []string{unsafe.String(&bytes[0], 2)}, plenty, plenty); got.err != api.OK || lines(got.Outputs) != s+" "+s[:2] {
					t.Errorf("%s of %s: %+v", f.name, text, got)
				}
			}
		}
	}
}
