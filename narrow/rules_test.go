package narrow_test

import (
	"strings"
	"testing"

	"shuck/api"
)

// P10.1: the examples of the chapter.
func TestExamples(t *testing.T) {
	inBoth(t, nil,
		row{"number | string", "typeof string", "string", "number"},
		row{"1 | 2 | undefined", "is 1", "1", "2 | undefined"},
		row{"1 | 2 | undefined", "truthy", "1 | 2", "undefined"},
		row{"number", "is 3", "3", "number"},
		row{"unknown", "typeof string", "string", "unknown"},
		row{"any", "typeof string", "any", "any"},
		row{`{k: "a"; x: 1} | {k: "b"}`, `k is "a"`, `{k: "a"; x: 1}`, `{k: "b"}`},
		row{`{k: "a"; x: 1} | {k: "b"}`, "has x", `{k: "a"; x: 1}`, `{k: "b"}`},
	)
	for _, w := range both(t) {
		w.assigns(given{"number | string", "1", "number"})
	}
}

// typeofTable is types of every kind, and what typeof says of them; a dot where nothing is said.
const typeofTable = `
any: .
unknown: .
never: .
void: undefined
undefined: undefined
null: object
number: number
string: string
true: boolean
false: boolean
0: number
1: number
-1: number
"": string
"a": string
number[]: object
any[]: object
{}: object
{k: 1}: object
{k?: any}: object
() => void: function
(number, string?) => never: function
I#1: object
I#2<number>: object
I#2: object
I#9: object
T'7: .
E@1: .
E@1.A: .
class C#1: function
enum E#1: object
namespace N#1: object`

// ofEachKind goes through the lines of a table.
func ofEachKind(t *testing.T, table string, say func(of, says string)) {
	t.Helper()
	for _, line := range strings.Split(strings.TrimSpace(table), "\n") {
		at := strings.LastIndex(line, ": ")
		say(line[:at], line[at+2:])
	}
}

// left turns what is said of a type, y, n or ?, into what is left of it with yes and with no.
func left(of, test, letter string) row {
	switch letter {
	case "y":
		return row{of, test, of, "never"}
	case "n":
		return row{of, test, "never", of}
	}
	return row{of, test, of, of}
}

var interfaces = []string{"1 {k: 1; m?: 2}", "2<7> {k: T'7; m?: T'7}"}

// TestKind of every kind of type, also by words that typeof never says.
func TestTypeof(t *testing.T) {
	for _, w := range both(t) {
		w.interfaces(interfaces...)
		ofEachKind(t, typeofTable, func(of, says string) {
			for _, word := range []string{"number", "string", "boolean", "undefined", "function", "object", "", ".", "null", "symbol", "bigint", "Number", "number ", "any", "unknown", "never", "(nothing)", "void", "true", "\xff", "undefined\x00"} {
				letter := "n"
				switch {
				case says == ".":
					letter = "?"
				case says == word:
					letter = "y"
				}
				r := left(of, "typeof "+word, letter)
				if of == "unknown" {
					switch word {
					case "number", "string", "undefined":
						r.yes = word
					case "boolean":
						r.yes = "false | true"
					}
				}
				w.holds(r)
			}
		})
	}
}

// isTable is types of every kind, and what is said of them by TestIs of each of oneValues.
const isTable = `
any: ???????????
unknown: ???????????
never: ???????????
void: nnnnnn?nnnn
undefined: nnnnnnynnnn
null: nnnnnnnynnn
number: ??nnnnnn???
string: nn??nnnn???
true: nnnnynnnnnn
false: nnnnnynnnnn
0: ynnnnnnn???
1: nynnnnnn???
-1: nnnnnnnn???
"": nnynnnnn???
"a": nnnynnnn???
"1": nnnnnnnn???
null[]: nnnnnnn????
0[]: nnnnnnn????
{}: nnnnnnn????
{k: 1}: nnnnnnn????
() => 0: nnnnnnnn???
I#1: nnnnnnn????
I#2<null>: nnnnnnn????
I#9: nnnnnnn????
T'7: ???????????
E@1: ???????????
F@3: ???????????
E@1.A: ????nnnnynn
E@1.B: ????nnnnnyn
F@3.A: ????nnnnnny
F@3.B: ????nnnnnnn
class C#1: nnnnnnnn???
enum E#1: nnnnnnn????
namespace N#1: nnnnnnn????`

const oneValues = `0 1 "" "a" true false undefined null E@1.A E@1.B F@3.A`

// TestIs of every kind of type, by every kind of type of one value.
func TestIs(t *testing.T) {
	places := map[string]string{
		"number": "0 1", "string": `"" "a"`, "unknown": oneValues, "E@1": "E@1.A E@1.B", "F@3": "F@3.A",
	}
	for _, w := range both(t) {
		w.interfaces(interfaces...)
		ofEachKind(t, isTable, func(of, says string) {
			for i, value := range strings.Fields(oneValues) {
				r := left(of, "is "+value, says[i:i+1])
				if isOneOf(value, places[of]) {
					r.yes = value
				}
				w.holds(r)
				// A member without a Mark says the same of itself, but nothing stands in its place.
				object := "{k: " + of + "}"
				w.holds(left(object, "k is "+value, says[i:i+1]))
			}
		})
	}
}

// P10.1: two KCases of one text are one type; a KCase's own node says nothing.
func TestCaseIsItsText(t *testing.T) {
	w := begin(t)
	enum := w.id("E@1")
	one := w.find(api.Type{Kind: api.KCase, Num: 4, Text: "A", Parts: []int{enum}})
	same := w.find(api.Type{Kind: api.KCase, Num: 5, Text: "A", Parts: []int{enum}})
	w.leaves(one, api.Test{Kind: api.TestIs, Type: same}, true, one, api.OK)
	w.leaves(one, api.Test{Kind: api.TestIs, Type: same}, false, w.id("never"), api.OK)
	w.leaves(enum, api.Test{Kind: api.TestIs, Type: same}, true, one, api.OK)
	// An enum of the same name, but another node, is another one.
	w.holds(
		row{"E@1", "is E@2.A", "E@1", "E@1"},
		row{"E@1.A", "is E@2.A", "never", "E@1.A"},
		row{"E@1 | E@2", "is E@2.A", "E@1 | E@2.A", "E@1 | E@2"},
		row{"E@1.A | E@1.B | E@2", "is E@2.A", "E@2.A", "E@1.A | E@1.B | E@2"},
	)
}

// TestTruth of every kind of type.
func TestTruth(t *testing.T) {
	const table = `
any: ?
unknown: ?
never: ?
void: n
undefined: n
null: n
number: ?
string: ?
true: y
false: n
0: n
1: y
-1: y
9007199254740991: y
-9007199254740991: y
"": n
"a": y
"0": y
" ": y
"false": y
number[]: y
undefined[]: y
{}: y
{k: 0}: y
{k?: 0}: y
() => void: y
(number) => 0: y
I#1: y
I#2<undefined>: y
I#2: y
I#9: y
T'7: ?
E@1: ?
E@1.A: ?
class C#1: y
enum E#1: y
namespace N#1: y`
	for _, w := range both(t) {
		w.interfaces(interfaces...)
		ofEachKind(t, table, func(of, says string) { w.holds(left(of, "truthy", says)) })
	}
}

// memberTable is types, and what is said of them by TestHas k, TestField k is 1, TestHas z, TestField z is 1.
const memberTable = `
any: ????
unknown: ????
never: ????
void: ????
undefined: ????
null: ????
number: ????
string: ????
true: ????
false: ????
0: ????
1: ????
"a": ????
number[]: ????
{k: 1}[]: ????
{}: nnnn
{a: 1; b: 1}: nnnn
{k: 1}: yynn
{k: 2}: ynnn
{k: number}: y?nn
{k: string}: ynnn
{k: {k: 1}}: ynnn
{k?: 1}: ??nn
{k?: 2}: ??nn
{k?: string; z: 1}: ??yy
{a: 1; k: 1; z?: 1}: yy??
{k: 1 | 2}: y?nn
{k: 2 | 3}: ynnn
{k: 2 | number[] | string}: ynnn
{k: 2 | E@1.A | number[]}: y?nn
{k: any}: y?nn
{k: never}: y?nn
{k: void}: ynnn
() => {k: 1}: ????
I#1: yy??
I#2<1>: yy??
I#2<2>: yn??
I#2<1 | 2>: y???
I#2<2 | 3>: yn??
I#2<number>: y???
I#2<{k: 1}>: yn??
I#3: ????
I#4: ????
I#1<1>: ????
I#2: ????
I#2<1, 1>: ????
I#9: ????
T'7: ????
E@1: ????
E@1.A: ????
class C#1: ????
enum E#1: ????
namespace N#1: ????`

// TestHas and TestField of every kind of type: with a piece, with a Mark, without one; of what has no Pieces.
func TestMembers(t *testing.T) {
	for _, w := range both(t) {
		w.interfaces("1 {k: 1; m?: 2}", "2<7> {k: T'7; m?: T'7}", "3 {k?: 1; z?: 2}", "4 {}")
		tests := []string{"has k", "k is 1", "has z", "z is 1"}
		ofEachKind(t, memberTable, func(of, says string) {
			for i, test := range tests {
				w.holds(left(of, test, says[i:i+1]))
			}
			// No piece has an empty name, or one that is none.
			letter := "?"
			if strings.HasPrefix(of, "{") && strings.HasSuffix(of, "}") {
				letter = "n"
			}
			for _, test := range []string{"has ", "has kk", "has K", "has k ", "has class", "has \xff"} {
				w.holds(left(of, test, letter))
			}
			w.holds(left(of, " is 1", letter), left(of, "K is 1", letter))
		})
	}
}

// TestField of a piece without a Mark whose type is a union: no, if no is said of each part; else either, never yes.
func TestFieldOfUnions(t *testing.T) {
	w := begin(t)
	for _, r := range []struct{ of, value, letter string }{
		{"1 | 2", "1", "?"}, {"1 | 2", "2", "?"}, {"1 | 2", "3", "n"},
		{"1 | number[]", "1", "?"}, {"1 | string", `"a"`, "?"}, {"1 | string", "2", "n"},
		{"number | string", "1", "?"}, {"number | string", "true", "n"},
		{"false | true", "true", "?"}, {"false | true", "1", "n"}, {"false | true", "E@1.A", "n"},
		{"undefined | void", "undefined", "?"}, {"undefined | void", "null", "n"}, {"undefined | void", "E@1.A", "n"}, {"null | void", "undefined", "?"},
		{"null | {}", "null", "?"}, {"{k: 1} | {}", "null", "?"}, {"{k: 1} | {}", "undefined", "n"},
		{"E@1.A | E@1.B", "E@1.A", "?"}, {"E@1.A | E@1.B", "F@3.A", "n"}, {"E@1.A | E@1.B", "1", "?"}, {"E@1.A | E@1.B", "true", "n"},
		{"E@1 | F@3", "E@1.A", "?"}, {"T'7 | null", "undefined", "?"},
		{"class C#1 | null", "undefined", "n"}, {"(() => void) | class C#1", "null", "n"},
	} {
		w.interfaces("5 {k: " + r.of + "}")
		w.holds(left("{k: "+r.of+"}", "k is "+r.value, r.letter), left("I#5", "k is "+r.value, r.letter))
		// With a Mark nothing is said, whatever its type.
		w.interfaces("5 {k?: " + r.of + "}")
		w.holds(left("{k?: "+r.of+"}", "k is "+r.value, "?"), left("I#5", "k is "+r.value, "?"))
	}
}

// P10.1: of unions each part is asked; the parts that are left are put together.
func TestUnions(t *testing.T) {
	inBoth(t, []string{"1 {k: 1; m?: 2}", "2<7> {k: T'7}"},
		// Nothing is left.
		row{"number | string", "typeof object", "never", "number | string"},
		row{"number | string", "typeof bigint", "never", "number | string"},
		row{"1 | 2", "is 3", "never", "1 | 2"},
		row{"null | undefined", "truthy", "never", "null | undefined"},
		row{"number[] | {}", "truthy", "number[] | {}", "never"},
		row{"1 | 2 | 3", "typeof number", "1 | 2 | 3", "never"},
		row{"{k: 1} | {k: 2}", "k is 3", "never", "{k: 1} | {k: 2}"},
		row{"{k: 1} | {k: 2}", "has z", "never", "{k: 1} | {k: 2}"},
		row{"{k: 1} | {k: 2}", "has k", "{k: 1} | {k: 2}", "never"},
		// Those of which either is said stand on both sides.
		row{"E@1 | number | string", "typeof number", "E@1 | number", "E@1 | string"},
		row{"T'7 | null | number", "typeof object", "T'7 | null", "T'7 | number"},
		row{"0 | 1 | null | number[]", "truthy", "1 | number[]", "0 | null"},
		row{"null | number | string", "truthy", "number | string", "null | number | string"},
		row{"E@1.A | E@1.B | null", "truthy", "E@1.A | E@1.B", "E@1.A | E@1.B | null"},
		row{"{k: 1} | {k: 2} | {k?: 1} | {z: 1}", "k is 1", "{k: 1} | {k?: 1}", "{k: 2} | {k?: 1} | {z: 1}"},
		row{"{k: 1} | {k: 2} | {k?: 1} | {z: 1}", "has k", "{k: 1} | {k: 2} | {k?: 1}", "{k?: 1} | {z: 1}"},
		row{"I#1 | I#2<2> | I#9 | number[] | {}", "k is 1", "I#1 | I#9 | number[]", "I#2<2> | I#9 | number[] | {}"},
		row{"I#1 | I#2<2> | I#9 | number[] | {}", "has k", "I#1 | I#2<2> | I#9 | number[]", "I#9 | number[] | {}"},
		row{"null | number | {k: 1} | {k: 2}", "k is 2", "null | number | {k: 2}", "null | number | {k: 1}"},
		// The edges of TestIs beside one another.
		row{"undefined | void", "is undefined", "undefined | void", "void"},
		row{"undefined | void", "is null", "never", "undefined | void"},
		row{"undefined | void", "is E@1.A", "never", "undefined | void"},
		row{"null | {}", "is null", "null | {}", "{}"},
		row{"1 | E@1.A | E@1.B | F@3.A", "is E@1.A", "1 | E@1.A", "1 | E@1.B | F@3.A"},
		row{"1 | 2 | E@1.A", "is 1", "1 | E@1.A", "2 | E@1.A"},
		row{`"a" | "b" | E@1.A`, `is "a"`, `"a" | E@1.A`, `"b" | E@1.A`},
		row{"false | true", "is true", "true", "false"},
		row{"false | null | true | undefined", "is null", "null", "false | true | undefined"},
		row{"(() => void) | class C#1 | enum E#1 | namespace N#1", "typeof function", "(() => void) | class C#1", "enum E#1 | namespace N#1"},
	)
}

// P10.1: what stands in the place of a part of which either is said, where yes is asked.
func TestPlaces(t *testing.T) {
	inBoth(t, []string{"1 {k: 1; m?: 2}"},
		// Of unknown by TestKind: the words of which the type is one.
		row{"unknown", "typeof number", "number", "unknown"},
		row{"unknown", "typeof string", "string", "unknown"},
		row{"unknown", "typeof boolean", "false | true", "unknown"},
		row{"unknown", "typeof undefined", "undefined", "unknown"},
		row{"unknown", "typeof object", "unknown", "unknown"},
		row{"unknown", "typeof function", "unknown", "unknown"},
		row{"unknown", "typeof null", "unknown", "unknown"},
		row{"unknown", "typeof void", "unknown", "unknown"},
		row{"unknown", "typeof ", "unknown", "unknown"},
		// Of unknown by other tests.
		row{"unknown", "is 1", "1", "unknown"},
		row{"unknown", "is E@1.A", "E@1.A", "unknown"},
		row{"unknown", "is null", "null", "unknown"},
		row{"unknown", "truthy", "unknown", "unknown"},
		row{"unknown", "has k", "unknown", "unknown"},
		row{"unknown", "k is 1", "unknown", "unknown"},
		// Not of any, nor of a parameter.
		row{"any", "typeof boolean", "any", "any"},
		row{"any", "is 1", "any", "any"},
		row{"T'7", "typeof number", "T'7", "T'7"},
		row{"T'7", "is 1", "T'7", "T'7"},
		// Of number, string and an enum.
		row{"number | undefined", "is -3", "-3", "number | undefined"},
		row{"number | undefined", "is undefined", "undefined", "number"},
		row{"number | string", "is 3", "3", "number | string"},
		row{"number | string", `is "x"`, `"x"`, "number | string"},
		row{"number | string", `is ""`, `""`, "number | string"},
		row{"number | string", "is E@1.A", "number | string", "number | string"},
		row{"E@1 | number | string", "is E@1.A", "E@1.A | number | string", "E@1 | number | string"},
		row{"E@1 | number | string", "is 0", "0 | E@1", "E@1 | number | string"},
		row{"E@1 | F@3", "is E@1.A", "E@1.A | F@3", "E@1 | F@3"},
		row{"E@1 | null", "is F@3.A", "E@1", "E@1 | null"},
		// Only what the test asks about: not what a member is.
		row{"{k: number}", "k is 1", "{k: number}", "{k: number}"},
		row{"{k: unknown}", "k is 1", "{k: unknown}", "{k: unknown}"},
		row{"number[]", "is null", "number[]", "number[]"},
		// Where yes or no is said, the part itself.
		row{"number", "typeof number", "number", "never"},
		row{"3", "is 3", "3", "never"},
	)
}

// P10.1: a test's fields that its kind does not name say nothing.
func TestFieldsUnasked(t *testing.T) {
	w := begin(t)
	id, k := w.id("1 | null | number[] | {k: 1}"), w.id("1")
	for _, words := range []string{"typeof object", "truthy", "has k"} {
		for _, other := range []int{-1, 0, 6, 99, 1 << 62, -1 << 63} {
			test := w.test(words)
			for _, yes := range []bool{true, false} {
				want, _ := w.keep(id, test, yes)
				test.Type = other
				w.leaves(id, test, yes, want, api.OK)
			}
		}
	}
	for _, text := range []string{"number", "k", "", "\xff", "a b"} {
		w.leaves(id, api.Test{Kind: api.TestIs, Text: text, Type: k}, true, k, api.OK)
		w.leaves(id, api.Test{Kind: api.TestTruth, Text: text}, false, w.id("null"), api.OK)
	}
}
