package relate_test

import (
	"fmt"
	"testing"
)

// chain is the lines of so many interfaces, each of which has the next one, and the last one what is told.
func chain(node int, name string, n int, last string) []string {
	var l []string
	for i := range n {
		next := last
		if i < n-1 {
			next = fmt.Sprintf("%s#%d", name, node+i+1)
		}
		l = append(l, fmt.Sprintf("%d {next: %s}", node+i, next))
	}
	return l
}

// lines is the lines of several.
func lines(lists ...[]string) []string {
	var all []string
	for _, l := range lists {
		all = append(all, l...)
	}
	return all
}

// P9.1: interfaces that speak of themselves: what asks itself again is yes, unless something turns it.
func TestOfThemselves(t *testing.T) {
	inBoth(t, []string{
		"1 {next: L#1}", "2 {next: M#2}", "3 {next: L#3; v: 1}", "4 {next: M#4; v: number}", "5 {next: L#5 | null}", "6 {next: M#6 | null | undefined}", "7 {next?: L#7}", "8 {next: L#8[]}", "9 {next: () => L#9}", "10 {next: () => M#10}", "11 {next: L#11[]; v: 1}",
	},
		row{"L#1", "M#2", true, 1}, row{"M#2", "L#1", true, 1}, row{"L#1[]", "M#2[]", true, 2}, row{"L#1", "{next: M#2}", true, 2}, row{"{next: L#1}", "M#2", true, 2}, row{"L#1", "{next: {next: L#1}}", true, 3}, row{"{next: {next: L#1}}", "M#2", true, 3},
		row{"L#1", "{next: {next: {}}}", true, 3}, row{"L#1", "{next: {next: {v: 1}}}", false, 3}, row{"L#1", "{next: number}", false, 2},
		row{"L#3", "M#4", true, 2}, row{"M#4", "L#3", false, 2}, row{"L#3", "L#1", true, 1}, row{"L#1", "L#3", false, 1},
		row{"L#5", "M#6", true, 9}, row{"M#6", "L#5", false, 10}, row{"L#1", "L#5", true, 3}, row{"L#5", "L#1", false, 3},
		row{"L#7", "L#1", false, 1}, row{"L#1", "L#7", true, 1}, row{"{}", "L#7", true, 1}, row{"{next?: {next: number}}", "L#7", false, 3},
		row{"L#8", "L#11", false, 1}, row{"L#11", "L#8", true, 2}, row{"L#8", "L#1", false, 2}, row{"L#9", "M#10", true, 2}, row{"L#9", "L#1", false, 2},
	)
}

// P9.1: interfaces that speak of each other.
func TestOfEachOther(t *testing.T) {
	inBoth(t, []string{
		"1 {b: B#2}", "2 {a: A#1}", "3 {b: D#4}", "4 {a: C#3}",
		"5 {b: F#6; v: 1}", "6 {a: E#5; v: 1}", "7 {b: H#8; v: number}", "8 {a: G#7; v: number}", "9 {b: J#10; v: number}", "10 {a: I#9; v: string}",
		"11 {f: (A#11) => void}", "12 {f: (B#12) => void}", "13 {f: (A#13) => void; v: 1}", "14 {f: (B#14) => void; v: number}", "15 {f: () => A#15; v: 1}", "16 {f: () => B#16; v: number}",
		"17 {a: A#17 | number}", "18 {a: A#18}",
	},
		row{"A#1", "C#3", true, 2}, row{"B#2", "D#4", true, 2}, row{"A#1", "D#4", false, 1},
		row{"E#5", "G#7", true, 3}, row{"G#7", "E#5", false, 3}, row{"E#5", "I#9", false, 4}, row{"F#6", "J#10", false, 4}, row{"E#5", "A#1", true, 2},
		// The parameters turn the pair round.
		row{"A#11", "B#12", true, 4}, row{"A#13", "B#14", false, 6}, row{"B#14", "A#13", false, 6}, row{"A#15", "B#16", true, 3}, row{"B#16", "A#15", false, 3}, row{"A#13", "A#11", false, 3}, row{"A#11", "A#13", false, 1},
		// One of a union that leads back is enough.
		row{"A#18", "A#17 | number", true, 3}, row{"A#18", "A#17", true, 3}, row{"A#17", "A#18", false, 3}, row{"A#17 | A#18", "A#17", true, 5},
	)
}

// P9.1: interfaces with parameters that come back in another order, or within others.
func TestOfParameters(t *testing.T) {
	inBoth(t, []string{
		"1<7> {next: L#1<T'7>; v: T'7}", "2<7> {next: M#2<T'7>; v: T'7}",
		"3<7,8> {next: P#3<U'8, T'7>; v: T'7}",
		"4<7> {next: Q#4<T'7 | null>; v: T'7}",
		"5<7> {next: R#5<number>; v: T'7}",
		"6<7> {all: (T'7) => S#6<T'7>}",
	},
		row{"L#1<1>", "L#1<number>", true, 2}, row{"L#1<number>", "L#1<1>", false, 2}, row{"L#1<1>", "M#2<number>", true, 2}, row{"L#1<L#1<1>>", "M#2<M#2<number>>", true, 3}, row{"L#1<M#2<1>>", "M#2<L#1<2>>", false, 3},
		row{`P#3<1, "a">`, "P#3<number, string>", true, 4}, row{`P#3<1, "a">`, "P#3<number, number>", false, 4}, row{`P#3<1, "a">`, "P#3<string, string>", false, 4}, row{"P#3<1, 2>", "L#1<number>", true, 4}, row{"L#1<1>", "P#3<number, 1>", true, 4}, row{"L#1<1>", "P#3<number, 2>", false, 4},
		row{"Q#4<1>", "Q#4<number>", true, 9}, row{"Q#4<number>", "Q#4<1>", false, 9}, row{"Q#4<null>", "Q#4<null | number>", true, 4}, row{"Q#4<1>", "L#1<number>", false, 5}, row{"Q#4<1>", "L#1<null | number>", true, 9},
		row{"R#5<1>", "R#5<string>", false, 3}, row{"R#5<1>", "R#5<2 | 3>", false, 5}, row{"R#5<1>", "R#5<number>", true, 3}, row{"R#5<1>", "L#1<number>", true, 4},
		row{"S#6<1>", "S#6<number>", false, 3}, row{"S#6<number>", "S#6<1>", true, 3},
	)
}

// P9.1: a no is carried on for rounds, along chains and round circles, whichever pair stands first.
func TestRoundsLater(t *testing.T) {
	for _, n := range []int{1, 2, 3, 10, 60} {
		defined := lines(
			chain(100, "A", n, "1"), chain(200, "B", n, "number"),
			chain(300, "C", n, "C#300"), chain(400, "D", n, "D#400 | number"),
		)
		inBoth(t, defined,
			row{"A#100", "B#200", true, n + 1}, row{"B#200", "A#100", false, n + 1}, row{"B#200", "B#200", true, 1},
			row{"C#300", "D#400", true, n + 2}, row{"D#400", "C#300", false, n + 2}, row{"C#300", "A#100", false, n + 1}, row{"A#100", "C#300", false, n + 1}, row{"A#100", "D#400", true, n + 3},
		)
	}
	// Circles of unlike lengths: the pair that is no stands on both somewhere.
	w := begin(t)
	w.interfaces(lines(chain(1, "A", 3, "A#1"), chain(11, "B", 4, "B#11"))...)
	w.holds(row{"A#1", "B#11", true, 12}, row{"B#12", "A#3", true, 12})
	w.interfaces("3 {next: A#1; v: string}", "14 {next: B#11; v: number}")
	w.holds(row{"A#1", "B#11", false, 4})
	w.interfaces("1 {next: A#2; v: number}", "2 {next: A#3; v: number}")
	w.holds(row{"A#1", "B#11", false, 14}, row{"A#2", "B#14", false, 14})
	w.interfaces("3 {next: A#1; v: 5}")
	w.holds(row{"A#1", "B#11", true, 14})
}

// P9.1: one of several is no only when the last of them has turned.
func TestOneTurnsLast(t *testing.T) {
	defined := func(lastY, lastZ string) []string {
		return lines(chain(100, "X", 9, "1"), chain(200, "Y", 3, "Y#300"), chain(300, "Y", 6, lastY), chain(400, "Z", 2, "Z#500"), chain(500, "Z", 7, lastZ))
	}
	inBoth(t, defined("number", "number"), row{"X#100", "Y#200 | Z#400", true, 20})
	inBoth(t, defined("number", "string"), row{"X#100", "Y#200 | Z#400", true, 21})
	inBoth(t, defined("string", "number"), row{"X#100", "Y#200 | Z#400", true, 21})
	inBoth(t, defined("string", "string"), row{"X#100", "Y#200 | Z#400", false, 20})
	// One turns in the first round, one in the ninth.
	inBoth(t, defined("number", "string"), row{"X#100", "Z#400 | number", false, 12}, row{"X#100", "Y#200 | number", true, 12})
	// All of several is no with the first one.
	inBoth(t, defined("number", "string"), row{"X#100 | null", "Z#400 | null", false, 16}, row{"X#100 | null", "Y#200 | null", true, 16}, row{"{x: X#100; y: X#100}", "{x: Y#200; y: Z#400}", false, 21})
}

// P9.2: pairs are reached, whatever the answers, and even where the answer stands already.
func TestReachedAllTheSame(t *testing.T) {
	inBoth(t, []string{"1 {next: L#1}", "2 {next: M#2}"},
		row{"{a: 1; b: L#1}", "{a: string; b: M#2}", false, 3}, row{"{a: L#1; b: 1}", "{a: M#2; b: string}", false, 3},
		row{"L#1", "M#2 | {}", true, 3}, row{"L#1", "number | {}", true, 3}, row{"L#1", "L#1 | M#2", true, 3},
		row{"L#1 | number", "string", false, 3}, row{"number | string", "string | {a: 1}[]", false, 7},
		row{"(1, 2[]) => 3[]", "(number, number[]) => null[]", false, 6}, row{"{a: 1; b: {c: {d: 1}}}", "{a: 2; b: {c: {d: number}}}", false, 5},
		// But not where the question itself is no.
		row{"{a: L#1}", "{a: M#2; b: 1}", false, 1}, row{"{a: L#1; b?: 1}", "{a: M#2; b: 1}", false, 1}, row{"(L#1, 1) => L#1", "(M#2) => M#2", false, 1}, row{"L#1[]", "M#2", false, 1},
		// Each pair once, by however many ways.
		row{"{a: 1; b: 1; c: 1}", "{a: number; b: number; c: number}", true, 2}, row{"(number, number) => 1", "(1, 1) => number", true, 2}, row{"{a: 1[]; b: 1[]; c: 1}", "{a: number[]; b: number[]; c: number}", true, 3},
		// But x for y and y for x are two.
		row{"(1) => 1", "(number) => number", false, 3}, row{"{a: L#1; f: (L#1) => void}", "{a: M#2; f: (M#2) => void}", true, 4},
	)
}
