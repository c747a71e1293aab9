package value_test

import (
	"math"
	"testing"

	"shuck/api"
)

const top = api.MaxNumber

// reckons holds rows of an op: two numbers and their answer.
func reckons(t *testing.T, op string, rows [][3]int) {
	t.Helper()
	for _, x := range rows {
		makes(t, op, num(x[0]), num(x[1]), answered(x[2]))
	}
}

func inexactAll(t *testing.T, op string, rows [][2]int) {
	t.Helper()
	for _, x := range rows {
		makes(t, op, num(x[0]), num(x[1]), inexact())
	}
}

// P14.4: sums that are exact, those just so at both ends, and just not.
func TestSum(t *testing.T) {
	reckons(t, "+", [][3]int{
		{0, 0, 0}, {1, 2, 3}, {-1, 1, 0}, {1 << 31, 1 << 31, 1 << 32}, {1<<32 - 1, 1, 1 << 32},
		{top, 0, top}, {0, top, top}, {top - 1, 1, top}, {top, -top, 0}, {top, -1, top - 1}, {-top, 0, -top}, {1 - top, -1, -top}, {-top, 1, 1 - top}, {1 << 52, 1<<52 - 1, top}, {-1 << 52, 1 - 1<<52, -top},
		{math.MaxInt, math.MinInt, 0}, {math.MaxInt, -1, top - 1}, {math.MinInt, 1, 1 - top}, {top + 1, 0, top},
	})
	inexactAll(t, "+", [][2]int{{top, 1}, {1, top}, {-top, -1}, {1 << 52, 1 << 52}, {-1 << 52, -1 << 52}, {top, top}, {-top, -top}, {math.MaxInt, 1}, {math.MaxInt, math.MaxInt}, {math.MinInt, math.MinInt}, {math.MinInt, -1}})
}

// P14.4: differences.
func TestDifference(t *testing.T) {
	reckons(t, "-", [][3]int{
		{0, 0, 0}, {3, 5, -2}, {5, 3, 2}, {-1, -1, 0}, {0, 1 << 31, -1 << 31},
		{top, 0, top}, {0, top, -top}, {top - 1, -1, top}, {1 - top, 1, -top}, {top, top, 0}, {-top, -top, 0}, {top, 1, top - 1}, {0, -top, top}, {-1, top - 1, -top}, {1, 1 - top, top},
		{math.MaxInt, math.MaxInt, 0}, {math.MinInt, math.MinInt, 0}, {0, math.MinInt, top}, {0, math.MaxInt, -top}, {math.MinInt, -1, 1 - top},
	})
	inexactAll(t, "-", [][2]int{{top, -1}, {-top, 1}, {-2, top}, {1, -top}, {top, -top}, {-top, top}, {1 << 52, -1 << 52}, {math.MaxInt, math.MinInt}, {math.MinInt, math.MaxInt}, {math.MinInt, 1}})
}

// P14.4: products, just exact and just not; of factors whose product in 64 digits would come back.
func TestProduct(t *testing.T) {
	reckons(t, "*", [][3]int{
		{0, 0, 0}, {0, -5, 0}, {-5, 0, 0}, {3, -4, -12}, {-3, -4, 12}, {top, 1, top}, {1, -top, -top}, {-top, -1, top}, {top, 0, 0}, {0, -top, 0},
		{94906265, 94906265, 9007199136250225}, {6361, 69431 * 20394401, top}, {-6361, 69431 * 20394401, -top}, {69431, -6361 * 20394401, -top}, {1 << 26, 1<<27 - 1, 1<<53 - 1<<26}, {-1 << 26, 1 << 26, -1 << 52}, {1 << 52, 1, 1 << 52},
		{math.MaxInt, 1, top}, {math.MinInt, 1, -top}, {math.MinInt, -1, top}, {math.MaxInt, 0, 0},
	})
	inexactAll(t, "*", [][2]int{
		{94906266, 94906267}, {94906265, 94906267}, {94906266, 94906266}, {94906267, 94906267}, {-94906266, 94906267}, {1 << 26, 1 << 27}, {-1 << 26, 1 << 27}, {1 << 26, -1 << 27}, {top, 2}, {2, -top}, {-2, -top}, {top, top}, {-top, top}, {-top, -top}, {math.MaxInt, math.MinInt},
		{1 << 32, 1 << 32}, {1 << 33, 1 << 31}, {1<<32 + 1, 1 << 32}, {1 << 52, 1 << 12}, {1 << 52, 1 << 52}, {-1 << 32, 1 << 32}, {3 << 50, 1 << 14}, {1<<40 + 1, 1<<40 + 1}, {6074000999, 6074001000}, {1<<33 + 1, 1<<31 - 1}, {1 << 50, 16384},
	})
}

// P14.4: what is left, with the sign of a; of 0; by either sign; by 0.
func TestRest(t *testing.T) {
	reckons(t, "%", [][3]int{
		{7, 3, 1}, {-7, 3, -1}, {7, -3, 1}, {-7, -3, -1}, {6, 3, 0}, {-6, 3, 0}, {0, 3, 0}, {0, -3, 0}, {2, 3, 2}, {-2, 3, -2}, {2, -3, 2}, {5, 1, 0}, {-5, -1, 0},
		{top, 2, 1}, {-top, 2, -1}, {top, top, 0}, {top, -top, 0}, {top - 1, top, top - 1}, {1 - top, top, 1 - top}, {top, top - 1, 1}, {1, top, 1}, {-1, -top, -1}, {1 << 40, 1<<32 + 1, 4294967041},
		{math.MaxInt, 2, 1}, {math.MinInt, 2, -1}, {math.MinInt, -1, 0}, {math.MaxInt, math.MinInt, 0}, {5, math.MaxInt, 5}, {top - 1, math.MaxInt, top - 1},
	})
	inexactAll(t, "%", [][2]int{{7, 0}, {0, 0}, {-7, 0}, {top, 0}, {-top, 0}, {math.MinInt, 0}})
}

// P14.4: & | ^ of the 32 digits of both, signed, at each edge of these.
func TestBits(t *testing.T) {
	reckons(t, "&", [][3]int{
		{12, 10, 8}, {-1, 5, 5}, {-1, -1, -1}, {0, -1, 0}, {1 << 31, 1 << 31, -1 << 31}, {1 << 31, -1, -1 << 31}, {1<<31 - 1, -1, 1<<31 - 1}, {1 << 32, -1, 0}, {1<<32 - 1, 1<<32 - 1, -1}, {1<<32 + 6, 3, 2}, {-1 << 31, -1, -1 << 31}, {-1<<31 - 1, -1, 1<<31 - 1},
		{top, top, -1}, {-top, -1, 1}, {top, 255, 255}, {math.MaxInt, -1, -1}, {math.MinInt, -1, 1}, {-1 << 32, -1, 0},
	})
	reckons(t, "|", [][3]int{
		{12, 10, 14}, {0, 0, 0}, {4294967297, 0, 1}, {1 << 31, 0, -1 << 31}, {0, 1<<31 - 1, 1<<31 - 1}, {1<<31 + 1, 0, 1 - 1<<31}, {1<<32 - 1, 0, -1}, {1 << 32, 0, 0}, {-1 << 31, 0, -1 << 31}, {-1<<31 - 1, 0, 1<<31 - 1}, {-1 << 32, 0, 0}, {1 - 1<<32, 0, 1}, {-1<<32 - 1, 0, -1},
		{top, 0, -1}, {0, -top, 1}, {top - 1, 0, -2}, {1 - top, 0, 2}, {math.MaxInt, 0, -1}, {0, math.MinInt, 1}, {-8, 1, -7},
	})
	reckons(t, "^", [][3]int{
		{12, 10, 6}, {5, 5, 0}, {-1, 0, -1}, {-1, 5, -6}, {-1, -1, 0}, {1 << 31, 0, -1 << 31}, {1 << 31, -1, 1<<31 - 1}, {1 << 32, 1, 1}, {1<<32 - 1, 1, -2}, {-1 << 31, 1 << 31, 0},
		{-1, top, 0}, {top, top, 0}, {top, -top, -2}, {math.MaxInt, 0, -1}, {math.MinInt, 0, 1},
	})
}

// P14.4: << of 32 digits by the lowest five of b, signed.
func TestLeft(t *testing.T) {
	reckons(t, "<<", [][3]int{
		{1, 0, 1}, {1, 1, 2}, {1, 30, 1 << 30}, {1, 31, -1 << 31}, {1, 32, 1}, {1, 33, 2}, {1, -1, -1 << 31}, {3, 31, -1 << 31}, {2, 31, 0}, {-1, 31, -1 << 31}, {-1, 1, -2}, {-1, 0, -1}, {5, 64, 5}, {5, -32, 5}, {5, -31, 10},
		{1<<31 - 1, 1, -2}, {1 << 31, 0, -1 << 31}, {1 << 31, 1, 0}, {1<<31 + 1, 1, 2}, {1<<32 - 1, 0, -1}, {1 << 32, 5, 0}, {1<<32 + 1, 1, 2}, {-1 << 31, 1, 0}, {1 << 30, 1, -1 << 31}, {1 << 30, 2, 0},
		{1, top, -1 << 31}, {1, -top, 2}, {top, 0, -1}, {top, 1, -2}, {-top, 0, 1}, {-top, 1, 2}, {1, math.MaxInt, -1 << 31}, {1, math.MinInt, 2}, {math.MaxInt, 31, -1 << 31}, {math.MinInt, 31, -1 << 31},
	})
}

// P14.4: >> with the sign, >>> with noughts, from 0 on.
func TestRight(t *testing.T) {
	reckons(t, ">>", [][3]int{
		{8, 0, 8}, {8, 1, 4}, {7, 1, 3}, {-8, 1, -4}, {-7, 1, -4}, {-1, 31, -1}, {-1, 0, -1}, {-8, 33, -4}, {8, 32, 8}, {8, -1, 0}, {-8, -1, -1}, {1 << 31, 31, -1}, {1 << 31, 0, -1 << 31}, {1<<31 - 1, 30, 1}, {1<<31 - 1, 31, 0}, {1 << 32, 0, 0}, {1<<32 - 1, 4, -1}, {1<<32 + 8, 3, 1}, {-1 << 31, 31, -1}, {-1<<31 - 1, 30, 1}, {-1 << 32, 1, 0},
		{top, 0, -1}, {top, 31, -1}, {-top, 0, 1}, {-top, 1, 0}, {8, top, 0}, {8, -top, 4}, {-8, math.MaxInt, -1}, {-8, math.MinInt, -4}, {math.MaxInt, 5, -1}, {math.MinInt, 0, 1},
	})
	reckons(t, ">>>", [][3]int{
		{8, 0, 8}, {8, 1, 4}, {7, 1, 3}, {-8, 1, 1<<31 - 4}, {-1, 0, 4294967295}, {-1, 1, 1<<31 - 1}, {-1, 31, 1}, {-1, 32, 4294967295}, {-1, 33, 1<<31 - 1}, {-1, -1, 1}, {1 << 31, 31, 1}, {1 << 31, 0, 1 << 31}, {1<<31 - 1, 30, 1}, {1<<31 - 1, 31, 0}, {1 << 32, 0, 0}, {1<<32 - 1, 0, 1<<32 - 1}, {1<<32 + 8, 3, 1}, {-1 << 31, 0, 1 << 31}, {-1 << 31, 31, 1}, {-1<<31 - 1, 0, 1<<31 - 1}, {-1 << 32, 1, 0}, {1 - 1<<32, 0, 1},
		{top, 0, 1<<32 - 1}, {top, 31, 1}, {-top, 0, 1}, {-top, 1, 0}, {8, top, 0}, {8, -top, 4}, {-8, math.MaxInt, 1}, {-8, math.MinInt, 1<<31 - 4}, {math.MaxInt, 28, 15}, {math.MinInt, 0, 1},
	})
}

// P14.4: what operators of numbers throw of two that are not both numbers; also ahead of being inexact.
func TestNumbersThrow(t *testing.T) {
	none := []api.Value{undefined(), null(), is(false), is(true), words(""), words("1"), ref(0), {Kind: 6, Num: 1}, {Kind: api.VString, Num: 1, Text: "1"}, {Kind: api.VRef, Num: 1, Text: "1"}}
	for _, op := range numberOps() {
		for _, a := range none {
			makes(t, op, a, num(1), thrown(noNumber))
			makes(t, op, num(1), a, thrown(noNumber))
			makes(t, op, a, num(0), thrown(noNumber))
			makes(t, op, num(top), a, thrown(noNumber))
			for _, b := range none {
				makes(t, op, a, b, thrown(noNumber))
			}
		}
	}
}

// P14.4: numbers whose fields their kind has not are the same as without them.
func TestNumbersWithTexts(t *testing.T) {
	a, b := api.Value{Kind: api.VNumber, Num: 6, Text: "a"}, api.Value{Kind: api.VNumber, Num: 4, Text: "b"}
	for op, want := range map[string]int{"+": 10, "-": 2, "*": 24, "%": 2, "&": 4, "|": 6, "^": 2, "<<": 96, ">>": 0, ">>>": 0} {
		makes(t, op, a, b, answered(want))
	}
	makes(t, "<", a, b, truth(false))
	makes(t, ">", a, b, truth(true))
	makes(t, "===", a, num(6), truth(true))
}
