package narrow_test

import (
	"testing"

	"shuck/api"
)

// P10.2: what is declared stays whole, if it is no union, whatever the value is.
func TestDeclaredIsNoUnion(t *testing.T) {
	for _, w := range both(t) {
		w.interfaces(interfaces...)
		types := []string{
			"any", "unknown", "never", "void", "undefined", "null", "number", "string", "true", "false", "0", `"a"`, "number[]", "(1 | 2)[]", "{}", "{k: 1 | 2}", "() => void", "(1 | null) => 1 | 2",
			"I#1", "I#2<1 | 2>", "I#9", "T'7", "E@1", "E@1.A", "class C#1", "enum E#1", "namespace N#1",
		}
		for _, declared := range types {
			for _, value := range append([]string{"1 | null", "number | string"}, types...) {
				w.assigns(given{declared, value, declared})
			}
		}
	}
}

// P10.2: those parts to which some part of the value is assignable; all, if there is none.
func TestAssigned(t *testing.T) {
	for _, w := range both(t) {
		w.interfaces("1 {k: 1; m?: 2}", "2<7> {k: T'7}", "3 {k: number; next: L#3}", "4 {k: 1; next: M#4}")
		w.assigns(
			// Some fit.
			given{"number | string", "number", "number"},
			given{"number | string", `"a"`, "string"},
			given{"null | number | string", "1 | null", "null | number"},
			given{"1 | 2 | 3", "1 | 2", "1 | 2"},
			given{"false | true", "true", "true"},
			given{"number | undefined", "undefined", "undefined"},
			given{"{a: number} | {b: string}", "{a: 1}", "{a: number}"},
			given{"number[] | string[]", "1[]", "number[]"},
			given{"(() => void) | null", "() => 1", "() => void"},
			given{"((number) => 1) | ((string) => 1)", "(string) => 1", "(string) => 1"},
			given{"T'7 | U'8", "T'7", "T'7"},
			given{"class C#1 | enum E#1 | namespace N#1", "enum E#1", "enum E#1"},
			// Some of the value's parts fit, others not.
			given{"number | string", "1 | null", "number"},
			given{"1 | 2 | 3", "2 | 4", "2"},
			given{"null | number | string", "1 | true | {}", "number"},
			given{"number | string", "{k: 1} | {}", "number | string"},
			// Each fits.
			given{"number | string", `"a" | 1`, "number | string"},
			given{"number | string", "number | string", "number | string"},
			given{"{a: number} | {}", "{a: 1}", "{a: number} | {}"},
			given{"number[] | string[]", "never[]", "number[] | string[]"},
			given{"number[] | string[]", "any[]", "number[] | string[]"},
			// None fits.
			given{"number | string", "null", "number | string"},
			given{"number | string", "void", "number | string"},
			given{"1 | 2 | 3", "number", "1 | 2 | 3"},
			given{"1 | 2 | 3", "4 | 5", "1 | 2 | 3"},
			given{"E@1.A | E@1.B", "E@1", "E@1.A | E@1.B"},
			given{"{a: 1} | {b: 1}", "{}", "{a: 1} | {b: 1}"},
			given{"I#9 | null", "{}", "I#9 | null"},
			// Tops and never.
			given{"number | string", "any", "number | string"},
			given{"number | string", "unknown", "number | string"},
			given{"number | string", "never", "number | string"},
			given{"null | void", "never", "null | void"},
			// undefined and void; enums; references.
			given{"undefined | void", "undefined", "undefined | void"},
			given{"undefined | void", "void", "void"},
			given{"null | void", "undefined", "void"},
			given{"number | string", "E@1", "number | string"},
			given{"number | string", "E@1.A", "number | string"},
			given{"E@1 | null | number", "E@1.A", "E@1 | number"},
			given{"E@1 | F@3", "F@3.A", "F@3"},
			given{"I#1 | I#2<2> | null", "{k: 1}", "I#1"},
			given{"I#1 | I#2<2> | null", "I#2<1>", "I#1"},
			given{"I#1 | I#2<number> | null", "I#1", "I#1 | I#2<number>"},
			given{"L#3 | null", "M#4", "L#3"},
			given{"M#4 | null", "L#3", "M#4 | null"},
			given{"M#4 | null", "L#3 | null", "null"},
		)
	}
}

// P10.2: what is left is the number of the type that is there.
func TestAssignedNumbers(t *testing.T) {
	w := begin(t)
	declared := w.id("null | number | string")
	for value, want := range map[int]int{
		declared: declared, 0: declared, 2: declared, 8: declared, 6: 6, 7: 7, 5: 5,
		w.id("number | string"): w.id("number | string"),
	} {
		length := w.a.Len()
		if n, e := w.assigned(declared, value); n != want || e != api.OK {
			t.Errorf("%s: %d, %v, not %d", w.a.Text(value), n, e, want)
		}
		if w.a.Len() != length {
			t.Errorf("%s: %d types more", w.a.Text(value), w.a.Len()-length)
		}
	}
}

// P10.2: large unions of both.
func TestAssignedWide(t *testing.T) {
	w := begin(t)
	declared, value, both := w.numbers(0, 300), w.numbers(100, 300), w.numbers(100, 200)
	if n, e := w.assigned(declared, value); n != both || e != api.OK {
		t.Errorf("%s, %v", w.short(n), e)
	}
	if n, e := w.assigned(value, declared); n != both || e != api.OK {
		t.Errorf("%s, %v", w.short(n), e)
	}
	if n, e := w.assigned(declared, w.numbers(300, 300)); n != declared || e != api.OK {
		t.Errorf("%s, %v", w.short(n), e)
	}
}

// numbers is the union of so many KNumIs from one on.
func (w *world) numbers(from, n int) int {
	w.Helper()
	var l []int
	for i := range n {
		l = append(l, w.find(api.Type{Kind: api.KNumIs, Num: from + i}))
	}
	return w.union(l...)
}
