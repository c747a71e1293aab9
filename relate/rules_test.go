package relate_test

import (
	"testing"

	"shuck/api"
)

// P9.1, P9.2: the examples of the chapter.
func TestExamples(t *testing.T) {
	inBoth(t, []string{"20 {next: L#20}", "21 {next: M#21}"},
		row{"1", "number", true, 1},
		row{"number", "1", false, 1},
		row{`"a" | 1`, "number | string", true, 7},
		row{"undefined", "void", true, 1},
		row{"(number) => 1", "(number, string) => void", true, 2},
		row{"(number, string) => 1", "(number) => 1", false, 1},
		row{"{a: 1; b: 2}", "{a: number}", true, 2},
		row{"{a?: 1}", "{a: 1}", false, 1},
		row{"{}", "{a?: 1}", true, 1},
		row{"L#20", "M#21", true, 1},
		row{"any", "never", false, 1},
		row{"never", "any", true, 1},
		row{"unknown", "any", true, 1},
		row{"unknown", "number", false, 1},
	)
}

// Rule 1: x is y. Every kind takes itself, whatever else would fit.
func TestItself(t *testing.T) {
	for _, w := range both(t) {
		w.interfaces("3 {a: number}", "4<7> {a: T'7[]}")
		for _, s := range []string{
			"any", "unknown", "never", "void", "undefined", "null", "number", "string", "true", "false", "0", "-1", `""`, `"a"`,
			"any[]", "{}", "{a?: 1; b: any}", "(number?) => void", "() => never", "1 | 2", "false | true", "I#3", "I#4<number>", "I#4", "I#9", "I#3<any>", "T'7", "E@1", "E@1.A", "class C#3", "enum E#1", "namespace N#5",
		} {
			w.holds(row{s, s, true, 1})
		}
	}
}

// Rules 2 to 5, and which of them fits first.
func TestTopsAndNever(t *testing.T) {
	inBoth(t, []string{"3 {a: number}"},
		// y any or unknown: nothing else is asked, not even of a union's parts.
		row{"any", "unknown", true, 1}, row{"unknown", "any", true, 1},
		row{"never", "any", true, 1}, row{"never", "unknown", true, 1},
		row{"1 | 2", "any", true, 1}, row{"1 | 2", "unknown", true, 1},
		row{"void", "unknown", true, 1}, row{"{a: 1}", "unknown", true, 1}, row{"I#3", "any", true, 1}, row{"T'7", "unknown", true, 1}, row{"() => any", "unknown", true, 1}, row{"class C#3", "any", true, 1},
		// x any.
		row{"any", "never", false, 1},
		row{"any", "number", true, 1}, row{"any", "1", true, 1}, row{"any", "void", true, 1}, row{"any", "null | number", true, 1}, row{"any", "number[]", true, 1}, row{"any", "{a: never}", true, 1}, row{"any", "I#3", true, 1}, row{"any", "I#9", true, 1}, row{"any", "() => never", true, 1}, row{"any", "T'7", true, 1}, row{"any", "E@1", true, 1}, row{"any", "enum E#1", true, 1},
		// x never.
		row{"never", "number", true, 1}, row{"never", "1 | 2", true, 1}, row{"never", "void", true, 1}, row{"never", "{a: 1}", true, 1}, row{"never", "I#9", true, 1}, row{"never", "T'7", true, 1}, row{"never", "namespace N#5", true, 1},
		// x unknown.
		row{"unknown", "never", false, 1}, row{"unknown", "number", false, 1}, row{"unknown", "void", false, 1}, row{"unknown", "{}", false, 1}, row{"unknown", "I#3", false, 1}, row{"unknown", "T'7", false, 1},
		row{"unknown", "null | undefined | {}", false, 1}, row{"unknown", "false | null | number | string | true | undefined | void | {}", false, 1},
		// y never.
		row{"number", "never", false, 1}, row{"undefined", "never", false, 1}, row{"{}", "never", false, 1}, row{"1 | 2", "never", false, 3}, row{"T'7", "never", false, 1},
	)
}

// Rules 6 and 7: all of x's parts, then one of y's.
func TestUnions(t *testing.T) {
	inBoth(t, nil,
		row{"1 | 2", "number", true, 3},
		row{"1 | string", "number", false, 3},
		row{"number | string", "number", false, 3},
		row{"number", "number | string", true, 3},
		row{"1", "number | string", true, 3},
		row{"null", "number | string", false, 3},
		row{"number", "1 | 2", false, 3},
		// Both: x's parts each to y, each of these to y's parts.
		row{"number | string", "null | number | string", true, 9},
		row{"number | string", "null | number | undefined", false, 9},
		row{"1 | 2 | 3", "1 | 2", false, 10},
		row{"1 | 2", "1 | 2 | 3", true, 9},
		row{"false | true", "false | null | true", true, 9},
		row{"true", "false | true", true, 3},
		row{"false | true", "true", false, 3},
		// A union's parts are asked of a whole: one of y's must take all of it.
		row{"{a: 1 | 2}", "{a: 1} | {a: 2}", false, 9},
		row{"{a: 1} | {a: 2}", "{a: 1 | 2}", true, 9},
		row{"(1 | 2)[]", "1[] | 2[]", false, 9},
		row{"1[] | 2[]", "(1 | 2)[]", true, 9},
		row{"(() => 1) | null", "(() => number) | null", true, 8},
		row{"(() => number) | null", "(() => 1) | null", false, 8},
		row{"undefined", "number | void", true, 3},
		row{"undefined | void", "number | void", true, 7},
		row{"undefined | void", "number | undefined", false, 7},
		row{"any[] | null", "null | number[]", true, 8},
		row{"T'1 | T'2", "T'1 | T'2 | T'3", true, 9},
		row{"T'1 | T'2", "T'1 | T'3", false, 7},
	)
}

// Unions of none and of one are no unions.
func TestUnionsOfFew(t *testing.T) {
	w := begin(t)
	none, single, twice := w.union(), w.union(w.id("1")), w.union(w.id("1"), w.id("1"), w.id("never"))
	w.answers(none, w.id("number"), true, api.OK, 1)
	w.answers(w.id("number"), none, false, api.OK, 1)
	w.answers(none, w.union(none, none), true, api.OK, 1)
	w.answers(w.id("any"), none, false, api.OK, 1)
	w.answers(single, w.id("number"), true, api.OK, 1)
	w.answers(single, twice, true, api.OK, 1)
	w.answers(w.id("number"), twice, false, api.OK, 1)
	w.answers(w.id("unknown"), w.union(w.id("unknown"), single), true, api.OK, 1)
	w.answers(w.id("unknown"), w.union(w.id("any"), single), true, api.OK, 1)
	w.answers(w.union(w.id("any"), single), none, false, api.OK, 1)
}

// Rule 8: values of a kind.
func TestValues(t *testing.T) {
	inBoth(t, nil,
		row{"1", "number", true, 1}, row{"-1", "number", true, 1}, row{"1", "string", false, 1}, row{"1", "2", false, 1}, row{"number", "1", false, 1}, row{"1", `"1"`, false, 1},
		row{`"a"`, "string", true, 1}, row{`""`, "string", true, 1}, row{`"a"`, "number", false, 1}, row{`"a"`, `"b"`, false, 1}, row{"string", `"a"`, false, 1},
		row{"undefined", "void", true, 1}, row{"void", "undefined", false, 1}, row{"null", "void", false, 1}, row{"null", "undefined", false, 1}, row{"undefined", "null", false, 1}, row{"number", "void", false, 1}, row{"void", "null", false, 1},
		row{"true", "false", false, 1}, row{"false", "true", false, 1}, row{"true", "number", false, 1}, row{"number", "string", false, 1}, row{"string", "number", false, 1}, row{"null", "number", false, 1},
	)
}

// Rule 8: enums and their members.
func TestEnums(t *testing.T) {
	inBoth(t, nil,
		row{"E@1.A", "E@1", true, 1}, row{"E@1", "E@1.A", false, 1}, row{"E@1.A", "E@1.B", false, 1}, row{"E@1.A", "F@3", false, 1}, row{"E@1.A", "F@3.A", false, 1}, row{"E@1", "F@3", false, 1},
		row{"E@1.A", "E@3", false, 1}, row{"E@1.A", "F@1", false, 1}, row{"E@1", "F@1", false, 1},
		row{"E@1", "number", true, 1}, row{"E@1", "string", true, 1}, row{"E@1.A", "number", true, 1}, row{"E@1.A", "string", true, 1},
		row{"number", "E@1", false, 1}, row{"string", "E@1", false, 1}, row{"number", "E@1.A", false, 1}, row{"1", "E@1", false, 1}, row{`"a"`, "E@1.A", false, 1},
		row{"E@1", "1", false, 1}, row{"E@1.A", `"A"`, false, 1}, row{"E@1", "false | true", false, 3}, row{"E@1", "void", false, 1}, row{"E@1", "{}", false, 1},
		row{"E@1", "enum E#1", false, 1}, row{"enum E#1", "E@1", false, 1}, row{"E@1.A", "enum E#1", false, 1}, row{"enum E#1", "number", false, 1},
		row{"E@1", "E@1.A | E@1.B", false, 3}, row{"E@1.A | E@1.B", "E@1", true, 3}, row{"E@1.A", "E@1 | null", true, 3}, row{"E@1.A", "E@1.B | null", false, 3}, row{"E@1", "number | string", true, 3}, row{"E@1.A | F@3", "number", true, 3}, row{"E@1.A | F@3", "E@1", false, 3},
		row{"E@1.A[]", "E@1[]", true, 2}, row{"E@1[]", "number[]", true, 2}, row{"E@1[]", "E@1.A[]", false, 2}, row{"(number) => void", "(E@1) => void", true, 2}, row{"(E@1) => void", "(number) => void", false, 2},
	)
}

// Rule 9: arrays.
func TestArrays(t *testing.T) {
	inBoth(t, []string{"3 {length: number}"},
		row{"1[]", "number[]", true, 2}, row{"number[]", "1[]", false, 2}, row{"1[][]", "number[][]", true, 3}, row{"1[][]", "number[]", false, 2}, row{"1[]", "number[][]", false, 2}, row{"never[]", "1[]", true, 2}, row{"any[]", "never[]", false, 2}, row{"any[]", "1[]", true, 2}, row{"1[]", "any[]", true, 2},
		row{"(1 | 2)[]", "number[]", true, 4}, row{"undefined[]", "void[]", true, 2},
		row{"1[]", "number", false, 1}, row{"number", "number[]", false, 1}, row{"1[]", "{}", false, 1}, row{"1[]", "{length: number}", false, 1}, row{"1[]", "I#3", false, 1}, row{"I#3", "1[]", false, 1}, row{"{}", "1[]", false, 1},
	)
}

// Rule 10: as many parameters, more, and fewer; marked and unmarked.
func TestParameters(t *testing.T) {
	inBoth(t, nil,
		row{"(number) => null", "(1) => null", true, 3}, row{"(1) => null", "(number) => null", false, 3},
		row{"() => null", "(number) => null", true, 2}, row{"() => null", "(1, 2, 3) => null", true, 2},
		row{"(number) => null", "() => null", false, 1}, row{"(number, number) => null", "(number) => null", false, 1},
		row{"(number?) => null", "() => null", true, 2}, row{"(number?, string?) => null", "() => null", true, 2}, row{"(number, string?) => null", "(number) => null", true, 3}, row{"(number, string?) => null", "() => null", false, 1},
		row{"(number, string, null?) => void", "(1) => void", false, 1}, row{"(number, string, null?) => void", `(1, "a") => void`, true, 3}, row{`(number, "a", null?) => void`, "(1, string) => void", false, 3},
		// A Mark of y's says nothing: they are parameters, too.
		row{"(number) => null", "(number?) => null", true, 3}, row{"(number?) => null", "(number) => null", true, 3}, row{"(number) => null", "(1?) => null", true, 3}, row{"(1, 2) => void", "(1, 2?) => void", true, 3}, row{"(1, 2, 3) => void", "(1, 2?) => void", false, 1},
		// Those that x has beyond y's are not asked, marked as they are.
		row{"(1, 2?) => void", "(1) => void", true, 2}, row{"(1, never?) => void", "(1) => void", true, 2},
		// Those that y has beyond x's are not asked.
		row{"(number) => void", "(1, never) => void", true, 2},
		// Each parameter counts.
		row{"(number, 1) => void", "(1, number) => void", false, 3}, row{"(1, number) => void", "(number, 1) => void", false, 3}, row{"(number, number) => void", "(1, 2) => void", true, 3},
		row{"(number, number) => void", "(1, 1) => void", true, 2},
		row{"(1 | 2) => void", "(1) => void", true, 4}, row{"(1) => void", "(1 | 2) => void", false, 4},
		row{"(any) => void", "(unknown) => void", true, 2}, row{"(number) => void", "(unknown) => void", false, 2}, row{"(number) => void", "(any) => void", true, 2}, row{"(never) => void", "(any) => void", false, 2},
		// The other way round, and round again.
		row{"((1) => void) => void", "((number) => void) => void", true, 3}, row{"((number) => void) => void", "((1) => void) => void", false, 3}, row{"(((number) => void) => void) => void", "(((1) => void) => void) => void", true, 4},
		row{"() => void", "{}", false, 1}, row{"{}", "() => void", false, 1}, row{"() => void", "(() => void)[]", false, 1}, row{"() => void", "class C#3", false, 1},
	)
}

// Rule 10: answers; where y's is void, x's is not asked.
func TestFunctionAnswers(t *testing.T) {
	inBoth(t, nil,
		row{"() => 1", "() => number", true, 2}, row{"() => number", "() => 1", false, 2},
		row{"() => 1", "() => void", true, 1}, row{"() => unknown", "() => void", true, 1}, row{"() => never", "() => void", true, 1}, row{"() => any", "() => void", true, 1}, row{"() => {a: 1}[]", "() => void", true, 1},
		row{"(number) => 1", "(number) => void", true, 2}, row{"(1) => 1", "(number) => void", false, 2}, row{"(number) => 1", "() => void", false, 1},
		row{"() => void", "() => undefined", false, 2}, row{"() => undefined", "() => void", true, 1}, row{"() => void", "() => any", true, 2}, row{"() => void", "() => number", false, 2}, row{"() => any", "() => never", false, 2}, row{"() => never", "() => 1", true, 2},
		// A union with void is not void.
		row{"() => number", "() => null | void", false, 4}, row{"() => undefined", "() => null | void", true, 4},
		row{"() => () => 1", "() => () => void", true, 2}, row{"() => () => 1", "() => void", true, 1}, row{"() => () => void", "() => () => 1", false, 3},
		// One of both is not enough.
		row{"(number) => 1", "(1) => number", true, 2}, row{"(1) => 1", "(number) => number", false, 3}, row{"(number) => number", "(1) => 1", false, 3},
		row{"(1) => 1", "(1) => number", true, 3}, row{"(1) => 1", "(2) => 1", false, 3},
	)
}

// Rule 11: Names and Marks.
func TestPieces(t *testing.T) {
	inBoth(t, []string{"3 {a: number}", "4 {a?: number}", "5 {}", "6 {a: 1; b: 2; c: 3}"},
		row{"{a: 1}", "{a: number}", true, 2}, row{"{a: number}", "{a: 1}", false, 2}, row{"{a: 1}", "{a: 1; b: 2}", false, 1}, row{"{a: 1; b: 2}", "{a: 1}", true, 2}, row{"{a: 1}", "{b: 1}", false, 1}, row{"{b: 1}", "{a: 1}", false, 1},
		row{"{a: 1; b: 2}", "{a: number; b: number}", true, 3}, row{"{a: 1; b: 2}", "{a: number; b: string}", false, 3}, row{"{a: 1; b: 2}", "{a: string; b: number}", false, 3}, row{"{a: 1; b: 2; c: 3}", "{a: number; c: number}", true, 3}, row{"{a: 1; b: 2; c: 3}", "{b: number}", true, 2}, row{"{a: 1; c: 3}", "{b: 1}", false, 1},
		// A Mark on either side.
		row{"{a?: 1}", "{a: 1}", false, 1}, row{"{a: 1}", "{a?: 1}", true, 2}, row{"{a?: 1}", "{a?: number}", true, 2}, row{"{a?: number}", "{a?: 1}", false, 2}, row{"{a: number}", "{a?: 1}", false, 2}, row{"{a?: any}", "{a: any}", false, 1},
		row{"{a?: 1}", "{a: any}", false, 1}, row{"{a?: 1}", "{a?: any}", true, 2}, row{"{a: undefined}", "{a?: 1}", false, 2}, row{"{}", "{a: undefined}", false, 1}, row{"{}", "{a: any}", false, 1}, row{"{}", "{a?: never}", true, 1},
		row{"{a?: 1; b: 2}", "{b: 2}", true, 2}, row{"{b: 2}", "{a?: 1; b: 2}", true, 2}, row{"{a: 1; b: 2}", "{b: 2; c?: 3}", true, 2}, row{"{a: 1; b?: 2}", "{a: number; b: number}", false, 1},
		// {} takes all that has Pieces, and nothing else.
		row{"{a: 1}", "{}", true, 1}, row{"{a?: 1}", "{}", true, 1}, row{"I#3", "{}", true, 1}, row{"I#5", "{}", true, 1}, row{"{}", "I#5", true, 1}, row{"I#3", "I#5", true, 1},
		row{"number", "{}", false, 1}, row{"null", "{}", false, 1}, row{"undefined", "{}", false, 1}, row{`"a"`, "{}", false, 1}, row{"() => void", "{}", false, 1}, row{"number[]", "{}", false, 1}, row{"T'1", "{}", false, 1}, row{"class C#3", "{}", false, 1}, row{"enum E#3", "{}", false, 1}, row{"namespace N#3", "{}", false, 1}, row{"{}", "number", false, 1}, row{"{}", "class C#3", false, 1}, row{"{}", "T'1", false, 1},
		// References and objects alike.
		row{"I#3", "{a: number}", true, 2}, row{"{a: 1}", "I#3", true, 2}, row{"I#3", "{a: 1}", false, 2}, row{"I#3", "I#4", true, 2}, row{"I#4", "I#3", false, 1}, row{"{}", "I#3", false, 1}, row{"{}", "I#4", true, 1}, row{"I#6", "I#3", true, 2}, row{"I#3", "I#6", false, 1}, row{"I#3", "J#3", true, 2}, row{"J#6", "I#6", true, 4},
		row{"I#6", "{a: 1} | {d: 1}", true, 4}, row{"I#3 | I#6", "{a: number}", true, 5}, row{"I#3[]", "I#4[]", true, 3}, row{"{x: I#6}", "{x: I#3}", true, 3},
		row{"class I#3", "I#3", false, 1}, row{"I#3", "class I#3", false, 1}, row{"enum I#3", "I#3", false, 1}, row{"I#3", "namespace I#3", false, 1},
	)
}

// Rule 11: references that are not defined, or with another number of parameters, have no Pieces.
func TestReferences(t *testing.T) {
	inBoth(t, []string{"3 {a: 1}", "4<7> {a: T'7}", "5<7,8> {a: T'7; b?: T'8}", "6<7,7> {a: T'7}", "8<7> {}"},
		row{"I#9", "{}", false, 1}, row{"{}", "I#9", false, 1}, row{"I#9", "J#9", false, 1}, row{"I#9", "I#9<number>", false, 1}, row{"I#3", "I#9", false, 1}, row{"I#9", "I#3", false, 1},
		row{"I#3<number>", "{}", false, 1}, row{"{a: 1}", "I#3<number>", false, 1}, row{"I#3<number>", "I#3", false, 1}, row{"I#3", "I#3<number>", false, 1}, row{"I#3<1>", "I#3<number>", false, 1},
		row{"I#4", "{}", false, 1}, row{"I#4", "I#4<any>", false, 1}, row{"I#4<1, 2>", "I#4<1>", false, 1}, row{"I#4<1, 2>", "{}", false, 1}, row{"I#5<1>", "{}", false, 1}, row{"I#5<1, 2>", "{}", true, 1},
		row{"I#4<1>", "I#4<number>", true, 2}, row{"I#4<number>", "I#4<1>", false, 2}, row{"I#4<1>", "{a: number}", true, 2}, row{"{a: 1}", "I#4<number>", true, 2}, row{"I#4<1>", "I#3", true, 2}, row{"I#3", "I#4<2>", false, 2}, row{"I#4<I#4<1>>", "{a: {a: number}}", true, 3}, row{"I#4<any>", "I#4<never>", false, 2},
		row{"I#5<1, 2>", "I#4<number>", true, 2}, row{"I#4<1>", "I#5<number, never>", true, 2}, row{"I#5<1, 2>", "I#5<number, number>", true, 3}, row{"I#5<1, 2>", "I#5<number, 1>", false, 3},
		row{"I#6<1, 2>", "{a: 1}", true, 2}, row{"I#6<1, 2>", "{a: 2}", false, 2}, row{"I#6<1, 2>", "I#6<1, 3>", true, 2},
		row{"I#8<1>", "I#8<2>", true, 1}, row{"I#8<1>", "{}", true, 1}, row{"I#8", "{}", false, 1},
		row{"I#4<T'7>", "I#4<T'7 | null>", true, 4}, row{"I#4<T'7>", "{a: T'8}", false, 2},
	)
}

// Rule 12: what nothing else fits.
func TestElse(t *testing.T) {
	kinds := []string{"void", "null", "number", "string", "true", "false", "5", `"a"`, "number[]", "{a: 1}", "() => void", "I#3", "I#9", "T'7", "U'7", "E@1", "E@1.A", "class C#3", "class D#3", "enum E#1", "namespace N#3"}
	isYes := map[[2]string]bool{
		{"5", "number"}: true, {`"a"`, "string"}: true, {"E@1.A", "E@1"}: true, {"E@1", "number"}: true, {"E@1", "string"}: true, {"E@1.A", "number"}: true, {"E@1.A", "string"}: true,
		{"{a: 1}", "I#3"}: true,
	}
	for _, w := range both(t) {
		w.interfaces("3 {a: number}")
		for _, x := range kinds {
			for _, y := range kinds {
				pairs := 1
				if x == "{a: 1}" && y == "I#3" || x == "I#3" && y == "{a: 1}" {
					pairs = 2
				}
				w.holds(row{x, y, x == y || isYes[[2]string{x, y}], pairs})
			}
		}
	}
}
