package fold_test

import (
	"math"
	"testing"

	"shuck/api"
)

// row is an expression and its value.
type row struct {
	text string
	want int
}

// worth fails, unless each expression has its value.
func worth(t *testing.T, rows ...row) {
	t.Helper()
	for _, r := range rows {
		values(t, r.text, expr(t, r.text), 0, r.want, api.OK)
	}
}

// worthless fails, unless none of the expressions has a value.
func worthless(t *testing.T, texts ...string) {
	t.Helper()
	for _, s := range texts {
		values(t, s, expr(t, s), 0, 0, api.ErrType)
	}
}

// P11.1: each sign alone.
func TestSigns(t *testing.T) {
	worth(t,
		row{"0", 0}, row{"7", 7}, row{"9007199254740991", api.MaxNumber},
		row{"-7", -7}, row{"~7", -8}, row{"~0", -1},
		row{"2 + 3", 5}, row{"2 - 3", -1}, row{"2 * 3", 6}, row{"7 % 3", 1},
		row{"1 << 4", 16}, row{"256 >> 4", 16}, row{"256 >>> 4", 16},
		row{"12 & 10", 8}, row{"12 | 10", 14}, row{"12 ^ 10", 6},
		row{"0 + 0", 0}, row{"0 - 0", 0}, row{"0 * 0", 0}, row{"0 << 0", 0}, row{"0 >> 0", 0}, row{"0 >>> 0", 0}, row{"0 & 0", 0}, row{"0 | 0", 0}, row{"0 ^ 0", 0},
	)
}

// P11.1: one sign within another, on either side.
func TestSignsWithin(t *testing.T) {
	worth(t,
		row{"1 + 2 * 3", 7}, row{"(1 + 2) * 3", 9}, row{"10 - 4 - 3", 3}, row{"10 - (4 - 3)", 9},
		row{"-1 << 2", -4}, row{"-(1 << 2)", -4}, row{"~(1 << 2)", -5}, row{"~1 << 2", -8}, row{"- -5", 5}, row{"~~5", 5}, row{"-~5", 6}, row{"~-5", 4},
		row{"~0 & 5", 5}, row{"1 | 2 ^ 3 & 4", 3}, row{"(1 | 2) ^ 3 & 5", 2}, row{"17 % 10 * 2", 14}, row{"17 % (10 * 2)", 17},
		row{"1 << 2 << 3", 32}, row{"1 << (2 << 1)", 16}, row{"-1 >>> 28 >> 2", 3}, row{"100 >> 1 + 1", 25}, row{"(100 >> 1) + 1", 51},
		row{"1 << 0 | 1 << 1 | 1 << 2", 7}, row{"((((1))))", 1}, row{"1 - (2 - (3 - (4 - 5)))", 3},
	)
	// Each sign with each other one on either side of it.
	unary, binary := []string{"-", "~"}, []string{"+", "-", "*", "%", "<<", ">>", ">>>", "&", "|", "^"}
	for _, outer := range binary {
		for _, inner := range binary {
			for _, n := range [][3]int{{1, 2, 3}, {-9, 4, 30}, {7, 7, 7}, {0, 5, -1}, {api.MaxNumber, 3, -api.MaxNumber}} {
				a, b, c := number(n[0]), number(n[1]), number(n[2])
				agreesAll(t, both(outer, both(inner, a, b), c))
				agreesAll(t, both(outer, a, both(inner, b, c)))
			}
		}
		for _, sign := range unary {
			agreesAll(t, node(api.Unary, sign, 0, both(outer, number(9), number(5))))
			agreesAll(t, both(outer, node(api.Unary, sign, 0, number(9)), number(5)))
			agreesAll(t, both(outer, number(9), node(api.Unary, sign, 0, number(5))))
		}
	}
}

// P11.1: each sign over each pair of numbers at an edge.
func TestEdges(t *testing.T) {
	numbers := []int{
		0, 1, 2, 3, 5, 7, 30, 31, 32, 33, 63, 64, 65, 94906265, 94906266, 94906267,
		1<<31 - 1, 1 << 31, 1<<31 + 1, 1<<32 - 1, 1 << 32, 1<<32 + 1, 1<<32 + 31, 1 << 33, 1 << 52, 1<<52 - 1, 1<<52 + 1, api.MaxNumber - 31, api.MaxNumber - 1, api.MaxNumber,
	}
	for _, n := range numbers {
		numbers = append(numbers, -n)
	}
	for _, a := range numbers {
		for _, sign := range []string{"-", "~", "!", "typeof"} {
			x := node(api.Unary, sign, 0, number(a))
			agrees(t, x, 0)
		}
		for _, b := range numbers {
			for _, sign := range []string{"+", "-", "*", "%", "<<", ">>", ">>>", "&", "|", "^"} {
				agrees(t, both(sign, number(a), number(b)), 0)
			}
		}
	}
}

// P11.1: sums and differences at MaxNumber and one beyond, both ways.
func TestSums(t *testing.T) {
	worth(t,
		row{"9007199254740990 + 1", api.MaxNumber}, row{"9007199254740991 + 0", api.MaxNumber}, row{"0 + 9007199254740991", api.MaxNumber}, row{"9007199254740991 + -1", api.MaxNumber - 1},
		row{"-9007199254740990 + -1", -api.MaxNumber}, row{"-9007199254740990 - 1", -api.MaxNumber}, row{"0 - 9007199254740991", -api.MaxNumber}, row{"-9007199254740991 - 0", -api.MaxNumber},
		row{"9007199254740990 - -1", api.MaxNumber}, row{"9007199254740991 - 9007199254740991", 0}, row{"9007199254740991 + -9007199254740991", 0}, row{"-9007199254740991 - -9007199254740991", 0},
		row{"4503599627370495 + 4503599627370496", api.MaxNumber},
	)
	worthless(t,
		"9007199254740991 + 1", "1 + 9007199254740991", "-9007199254740991 + -1", "-9007199254740991 - 1", "9007199254740991 - -1", "4503599627370496 + 4503599627370496", "-4503599627370496 - 4503599627370496",
		"9007199254740991 + 9007199254740991", "-9007199254740991 - 9007199254740991", "9007199254740991 - -9007199254740991", "9007199254740991 + 2", "-9007199254740991 - 2",
	)
}

// P11.1: products at MaxNumber and beyond; also such as wrap to what is within.
func TestProducts(t *testing.T) {
	worth(t,
		row{"9007199254740991 * 1", api.MaxNumber}, row{"1 * 9007199254740991", api.MaxNumber}, row{"-1 * 9007199254740991", -api.MaxNumber}, row{"-9007199254740991 * -1", api.MaxNumber}, row{"9007199254740991 * -1", -api.MaxNumber},
		row{"6361 * 1416003655831", api.MaxNumber}, row{"1416003655831 * 6361", api.MaxNumber}, row{"-6361 * 1416003655831", -api.MaxNumber}, row{"6361 * -1416003655831", -api.MaxNumber}, row{"-6361 * -1416003655831", api.MaxNumber},
		row{"2 * 4503599627370495", api.MaxNumber - 1}, row{"94906265 * 94906265", 94906265 * 94906265}, row{"94906265 * 94906266", 94906265 * 94906266},
		row{"9007199254740991 * 0", 0}, row{"0 * 9007199254740991", 0}, row{"-0 * 9007199254740991", 0}, row{"-9007199254740991 * 0", 0}, row{"0 * -5", 0},
	)
	worthless(t,
		"94906266 * 94906267", "94906266 * 94906266", "-94906266 * 94906266", "94906266 * -94906266", "-94906266 * -94906266",
		"2 * 4503599627370496", "4503599627370496 * 2", "-2 * 4503599627370496", "4503599627370496 * -2", "-2 * -4503599627370496", "9007199254740991 * 2", "2 * -9007199254740991",
		// 2^63, -2^63, 2^64, 2^64 - 1, 2^65, 2^64 + 3 and more: digits that are lost beyond 64.
		"2147483648 * 4294967296", "-2147483648 * 4294967296", "4294967296 * 4294967296", "-4294967296 * 4294967296", "-4294967296 * -4294967296",
		"4294967297 * 4294967295", "8589934592 * 4294967296", "4503599627370496 * 4096", "4503599627370496 * 8192", "4503599627370496 * -4096", "4503599627370497 * 4096",
		"9007199254740991 * 9007199254740991", "-9007199254740991 * 9007199254740991", "9007199254740991 * -9007199254740991", "-9007199254740991 * -9007199254740991", "9007199254740991 * 9007199254740990",
		// 2^64 - 2048: -2048, if it wraps; and its neighbours.
		"9007199254740991 * 2048", "9007199254740991 * 2049", "9007199254740991 * 2050", "9007199254740991 * 1024",
	)
}

// P11.1: % by 0, of negative numbers, by negative ones.
func TestRests(t *testing.T) {
	worth(t,
		row{"7 % 3", 1}, row{"-7 % 3", -1}, row{"7 % -3", 1}, row{"-7 % -3", -1}, row{"6 % 3", 0}, row{"-6 % 3", 0}, row{"6 % -3", 0}, row{"0 % 5", 0}, row{"-0 % 5", 0}, row{"0 % -5", 0},
		row{"3 % 7", 3}, row{"-3 % 7", -3}, row{"3 % -7", 3}, row{"5 % 1", 0}, row{"5 % -1", 0}, row{"-5 % -1", 0},
		row{"9007199254740991 % 2", 1}, row{"-9007199254740991 % 2", -1}, row{"9007199254740991 % 9007199254740990", 1}, row{"-9007199254740991 % 9007199254740991", 0}, row{"9007199254740990 % -9007199254740991", api.MaxNumber - 1}, row{"9007199254740991 % -1", 0},
	)
	worthless(t, "7 % 0", "0 % 0", "-7 % 0", "7 % -0", "9007199254740991 % 0", "7 % (3 - 3)", "7 % (1 >> 1)", "7 % (0 * -1)")
}

// P11.1: shifts by 0, 31, 32, by negative numbers and ones beyond 32 digits, of such.
func TestShifts(t *testing.T) {
	worth(t,
		row{"5 << 0", 5}, row{"5 >> 0", 5}, row{"5 >>> 0", 5}, row{"-5 << 0", -5}, row{"-5 >> 0", -5}, row{"-5 >>> 0", 1<<32 - 5},
		row{"1 << 30", 1 << 30}, row{"1 << 31", -1 << 31}, row{"2 << 31", 0}, row{"3 << 31", -1 << 31}, row{"-1 << 31", -1 << 31}, row{"1 << 32", 1}, row{"1 << 33", 2}, row{"1 << 63", -1 << 31}, row{"1 << 64", 1},
		row{"-1 >> 31", -1}, row{"-1 >> 32", -1}, row{"-8 >> 1", -4}, row{"-7 >> 1", -4}, row{"-1 >> 1", -1}, row{"7 >> 1", 3}, row{"2147483647 >> 31", 0}, row{"2147483647 >> 30", 1}, row{"-2147483648 >> 31", -1}, row{"5 >> 32", 5}, row{"5 >> 33", 2},
		row{"-1 >>> 0", 1<<32 - 1}, row{"-1 >>> 31", 1}, row{"-1 >>> 32", 1<<32 - 1}, row{"-1 >>> 1", 1<<31 - 1}, row{"-8 >>> 1", 1<<31 - 4}, row{"5 >>> 33", 2}, row{"-2147483648 >>> 0", 1 << 31},
		// By negative numbers.
		row{"1 << -1", -1 << 31}, row{"1 << -31", 2}, row{"1 << -32", 1}, row{"1 << -33", -1 << 31}, row{"-1 >> -1", -1}, row{"-256 >> -28", -16}, row{"-1 >>> -1", 1}, row{"-1 >>> -32", 1<<32 - 1}, row{"8 >>> -31", 4},
		// By numbers beyond 32 digits.
		row{"1 << 4294967296", 1}, row{"1 << 4294967297", 2}, row{"1 << 4294967327", -1 << 31}, row{"1 << 9007199254740991", -1 << 31}, row{"1 << -9007199254740991", 2}, row{"-8 >> 4294967297", -4}, row{"-1 >>> 9007199254740991", 1}, row{"8 >> -9007199254740991", 4},
		// Of numbers beyond 32 digits.
		row{"4294967296 << 0", 0}, row{"4294967297 << 1", 2}, row{"2147483648 << 0", -1 << 31}, row{"4294967295 >> 0", -1}, row{"4294967295 >> 31", -1}, row{"4294967295 >>> 0", 1<<32 - 1}, row{"4294967296 >>> 0", 0}, row{"4294967296 >> 1", 0}, row{"6442450944 >> 0", -1 << 31}, row{"6442450944 >>> 0", 1 << 31},
		row{"9007199254740991 << 0", -1}, row{"9007199254740991 >> 5", -1}, row{"9007199254740991 >>> 5", 1<<27 - 1}, row{"-9007199254740991 >>> 0", 1}, row{"-9007199254740991 >> 0", 1}, row{"-9007199254740991 << 31", -1 << 31}, row{"-4294967297 >> 0", -1}, row{"-2147483649 >> 0", 1<<31 - 1},
	)
}

// P11.1: & | ^ ~ of numbers with a sign and of ones beyond 32 digits.
func TestDigits(t *testing.T) {
	worth(t,
		row{"-1 & 5", 5}, row{"-1 | 5", -1}, row{"-1 ^ 5", -6}, row{"-8 & -4", -8}, row{"-8 | 4", -4}, row{"-1 ^ -1", 0},
		row{"4294967297 | 0", 1}, row{"4294967296 | 0", 0}, row{"4294967295 | 0", -1}, row{"2147483648 | 0", -1 << 31}, row{"2147483647 | 0", 1<<31 - 1}, row{"-2147483648 | 0", -1 << 31}, row{"-2147483649 | 0", 1<<31 - 1}, row{"9007199254740991 | 0", -1}, row{"-9007199254740991 | 0", 1},
		row{"4294967299 & 4294967298", 2}, row{"9007199254740991 & 255", 255}, row{"9007199254740991 & 9007199254740991", -1}, row{"2147483648 & 4294967295", -1 << 31}, row{"8589934593 & 8589934594", 0},
		row{"4294967297 ^ 2", 3}, row{"9007199254740991 ^ 0", -1}, row{"9007199254740991 ^ -9007199254740991", -2}, row{"2147483648 ^ 4294967295", 1<<31 - 1}, row{"4294967296 ^ 8589934592", 0},
		row{"~1", -2}, row{"~-1", 0}, row{"~2147483647", -1 << 31}, row{"~-2147483648", 1<<31 - 1}, row{"~2147483648", 1<<31 - 1}, row{"~4294967295", 0}, row{"~4294967296", -1}, row{"~4294967297", -2}, row{"~9007199254740991", 0}, row{"~-9007199254740991", -2},
	)
}

// P11.1: - of 0, of MaxNumber, of itself.
func TestOpposites(t *testing.T) {
	worth(t,
		row{"-0", 0}, row{"- -0", 0}, row{"0 - 0", 0}, row{"-(5 - 5)", 0}, row{"-9007199254740991", -api.MaxNumber}, row{"- -9007199254740991", api.MaxNumber}, row{"-4294967296", -1 << 32}, row{"-2147483648", -1 << 31}, row{"- -2147483648", 1 << 31},
		row{"0 * -1 + 0", 0}, row{"-0 >>> 0", 0}, row{"~-0", -1},
	)
}

// P11.1: an inexact value deep within, though the whole would be exact again.
func TestInexactWithin(t *testing.T) {
	worthless(t,
		"9007199254740991 + 1 - 1", "(9007199254740991 + 1) - 9007199254740991", "-1 + (9007199254740991 + 1)", "9007199254740991 + 1 - 9007199254740991", "0 * (9007199254740991 + 1)", "(9007199254740991 + 1) * 0", "(9007199254740991 + 1) % 2", "(9007199254740991 + 1) & 1", "0 & (9007199254740991 + 1)",
		"-(9007199254740991 + 1) + 5", "~(9007199254740991 + 1)", "(9007199254740991 + 1) >> 1", "1 << (9007199254740991 + 1)", "1 >>> (4294967296 * 4294967296)", "(4294967296 * 4294967296) | 0", "4294967296 * 4294967296 % 7", "0 * (1 % 0)", "0 & 1 % 0", "1 % 0 ^ 1 % 0", "1 | (2 | (3 | (4 | (5 | 6 % 0))))", "((((6 % 0 | 1) | 2) | 3) | 4) | 5", "-(-(-(-(1 % 0))))", "~~~~(1 % 0)", "0 % (1 % 0)", "(1 % 0) << 0",
		"9007199254740991 * 2 - 9007199254740991", "9007199254740991 * 2 >>> 1",
	)
	worth(t, row{"9007199254740991 - 1 + 1", api.MaxNumber}, row{"9007199254740991 + (1 - 1)", api.MaxNumber}, row{"1 + (9007199254740991 - 1)", api.MaxNumber}, row{"9007199254740991 + 0 * 5", api.MaxNumber})
}

// P11.1: the node that is asked for, wherever it stands, and nothing beside it.
func TestAnyNode(t *testing.T) {
	x := expr(t, "f(1 + 2, -3, x % 0)") // Call 0, Name 1, List 2, List 3, Binary 4, Num 5, Num 6, Unary 7, Num 8, Binary 9, Name 10, Num 11
	for n, want := range map[int]row{4: {"", 3}, 5: {"", 1}, 6: {"", 2}, 7: {"", -3}, 8: {"", 3}, 11: {"", 0}} {
		values(t, "within", x, n, want.want, api.OK)
	}
	for _, n := range []int{0, 1, 9, 10} {
		values(t, "within", x, n, 0, api.ErrType)
	}
	for _, n := range []int{2, 3, 12, -1, math.MinInt, math.MaxInt} {
		values(t, "within", x, n, 0, api.ErrArg)
	}
	y := program(t, "class C { x = 1 + 1; m() { for (let i = 5; i < 3 * 3; i += 1) { return -4; } } } namespace N { export const y = ~1; }")
	agreesAll(t, y)
}
