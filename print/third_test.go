package print_test

import "testing"

// P6.1: the third reason: signs `<` that would begin TypeArgs: one, several, one within the other, with everything that types may have.
func TestLess(t *testing.T) {
	expr().stays(t,
		// what ends them
		"(a < b) > (c = d)",
		"(a < b) > (c = d) > (e = f)",
		"(a < b) > (() => c)",
		"(a < b) > (c ? d : e)",
		"(a < b) > (c < d)",
		"(a < b) > (c < d) < e",
		"(a < b) > (c ? d : e).p",
		"(a < b) > (c ? d : e)()",
		"(a < b) > (c ? d : e)[0]",
		"(a < b) > (c ? d : e) * f",
		// names, numbers, words, strings
		"(a < b.c.d) > (e = f)",
		"(a < 1) > (e = f)",
		"(a < -1) > (e = f)",
		`(a < "b") > (e = f)`,
		"(a < null) > (e = f)",
		"(a < undefined) > (e = f)",
		"(a < true) > (e = f)",
		"(a < false) > (e = f)",
		// objects, arrows, brackets
		"(a < {}) > (e = f)",
		"(a < {p: b}) > (e = f)",
		"(a < {p: b, q: {r: -1}}) > (e = f)",
		"(a < {p: () => b}) > (e = f)",
		"(a < {p: () => {}}) > (e = f)",
		"(a < (() => b)) > (e = f)",
		"(a < ((x) => b)) > (e = f)",
		"(a < ((x, y) => {})) > (e = f)",
		"(a < (() => () => b)) > (e = f)",
		"(a < (b | c)) > (e = f)",
		"(a < b) | c > (e = f)",
		"(a < b) | -1 | c.d > (e = f)",
		// what stands ahead
		"(f() < b) > (e = f)",
		"(a.b[0] < b) > (e = f)",
		"(a + b < c) > (e = f)",
		"(-a < c) > (e = f)",
		"(a <= b < c) > (e = f)",
		"x === (a < b) > (e = f)",
		"(`${a}` < b) > (e = f)",
		"({} < b) > (e = f)",
		"(new A() < b) > (e = f)",
	)
	// signs of more than one character
	expr().stays(t,
		"(a < b) < c >> (d ? 1 : 2)",
		"(a < b) < c < d >>> (e = f)",
		"(a < b < c) > (d = e)",
		"(a < b < c < d) > (e = f)",
		"(a < b) < c > [] > (e = f)",
		"(a < b) < c < d >> [] > (e = f)",
		"(a < b) < c > [] | d > (e = f)",
		// TypeArgs end with the first `>` that is theirs
		"a < b > [] | (c < d) > (e = f)",
		"f(a < b > [], (c < d) > (e = f))",
		"x < ((a < b) < c >> (d = e))",
	)
}

// P6.1: signs `<` that begin no TypeArgs have no parentheses.
func TestLessAlone(t *testing.T) {
	expr().stays(t,
		"a < b", "a < b > c", "a < b > [c]", "a < b > {}", "a < b > -c", "a < b > !(c = d)", "a < b > typeof (c = d)", "a < b > `x`",
		"a < b >= (c = d)", "a < b >> (c = d)", "a < b >>> (c = d)", "a < b < c >>> (d = e)", "a < b <= c > (d = e)", "a <= b > (c = d)", "a << b > (c = d)",
		"a > b > (c = d)", "a > b",
		// within them stands what no type has
		"a < b + c > (d = e)", "a < b * c > (d = e)", "a < b() > (d = e)", "a < b[0] > (d = e)", "a < [] > (d = e)", "a < [b] > (d = e)",
		"a < !b > (d = e)", "a < ~b > (d = e)", "a < -b > (d = e)", "a < --1 > (d = e)", "a < typeof b > (d = e)", "a < this > (d = e)",
		"a < super.p > (d = e)", "a < new B() > (d = e)", "a < `b` > (d = e)", "a < `b${c}` > (d = e)", "a < 1.p > (d = e)", "a < null.p > (d = e)",
		"a < {p: b + c} > (d = e)", "a < {p: []} > (d = e)", "a < (b = c) > (d = e)", "a < (b ? c : x) > (d = e)", "a < (b && c) > (d = e)",
		"a < (() => b + c) > (d = e)", "a < (() => {\n  b;\n}) > (d = e)", "a < (() => ({}).p) > (d = e)", "a < \"b\".p > (d = e)",
		"a < b && c > (d = e)", "a < b || c > (d = e)", "a < b === c > (d = e)", "a < b ^ c > (d = e)", "a < b & c > (d = e)", "a < b in c > (d = e)",
		"a < b | c + x > (d = e)", "a < b ? c > (d = e) : x", "a < b > c > (d = e)", "a < (b < c) > d", "a < 1[0] > (d = e)",
		// the brackets are not behind the >
		"a < b > c(d)", "a < b > `c`(d)", "a < b > `c${d}e`(x)", "a < b > \"c\"(d)", "a < b > 1(d)", "a < b > this(d)", "a < b > [](d)", "a < b > {}(d)",
		// brackets stand between
		"f(a < b) > (d = e)", "[a < b] > (d = e)", "f(a < b, c)(x > (d = e))", "[a < b, [c > (d = e)]]", "{p: a < b}.q > (d = e)", "a[b < c] > (d = e)",
		"(a < b ? c : d) > (e = f)", "`${a < b}${c > (d = e)}`", "`${a < b}` > (c = d)", "f(`${a < b}`, c > (d = e))",
		"x < (a < b) > c", "() => a < b", "(() => a < b) > (c = d)",
	)
}

// P6.1: types that stand in lists: of a Call, a New, a Super, an Array; where they don't, there are none.
func TestLessInLists(t *testing.T) {
	expr().stays(t,
		"f((a < b), c > (d = e))",
		"new F((a < b), c > (d = e))",
		"super((a < b), c > (d = e))",
		"[(a < b), c > (d = e)]",
		"f((a < b), c, {p: d}, x > (d = e))",
		"f(a < b, (c < d), e > (x = y))",
		"f(a < b, (c < d) > (x = y), (a < b) > (x = y))",
		"f((a < b), c > (d = e), (a < b), c > (d = e))",
		"f((a < b), c < d > [], e > (x = y))",
		"f((a < b), c < d, e >> (x = y))",
		"f(a < b, c + d, e > (x = y))",
		"f(a < b, [c], e > (x = y))",
		"f(a < b, c === d > (x = y))",
		"f((a < b), c | d > (x = y))",
		"f((x + a < b), c > (d = e))",
		"f(x = (a < b), c > (d = e))",
		"f(x ? y : (a < b), c > (d = e))",
		"f(() => (a < b), c > (d = e))",
		"f(a < b ? c : d, e > (x = y))",
		"f(a < b, x = c > (d = e))",
		"f((a < b), (x) => c > (d = e))",
		"f(a < b, (x) => {}, c + d > (x = y))",
		"f((a < b), (x) => {}, c > (d = e))",
		"f((a < b), () => ({}), c > (d = e))",
		"f(a < b, () => ({}).p, c > (d = e))",
		"[[a < b, c], d > (e = f)]",
		"[a < b, [] > (e = f)]",
		"{p: a < b, q: c > (d = e)}",
		"{p: [(a < b), c > (d = e)]}",
	)
	program().stays(t,
		"let x = (a < b) > (c = d);\n",
		"for (let i = a < b; c > (d = e); ) {}\n",
		"for (; a < b; c > (d = e)) {}\n",
		"for (; (a < b) > (c = d); (a < b) > (c = d)) {}\n",
		"a < b;\nc > (d = e);\n",
		"if (a < b) {\n  c > (d = e);\n}\n",
		"return (a < b) > (c = d);\n",
		"class C {\n  x = (a < b) > (c = d);\n  y = a < b;\n  z = c > (d = e);\n}\n",
	)
}

// P6.1: one within the other, in Templates and Arrows.
func TestLessWithin(t *testing.T) {
	expr().stays(t,
		"`${(a < b) > (c = d)}`",
		"`<${(a < b) > (c = d)}> (${a < b}`",
		"`${a < b}> (c)${(a < b) > (c = d)}`",
		"`${`${(a < b) > (c = d)}`}${(a < b) > (c = d)}`",
		"`${{p: (a < b) > (c = d)}}`",
		"() => (a < b) > (c = d)",
		"a < (() => (b < c) > (d = e)) > (x = y)",
		"() => {\n  (a < b) > (c = d);\n  a < b;\n}",
		"(a < b) > (c = (d < e) > (x = y))",
		"(a < b) > (() => f((c < d), e > (x = y)))",
		"((a < b) > (c = d) < e) > (x = y)",
		"f((a < b) > (c = d) < e, g)",
		"(f((a < b), c > (d = e)) < x) > (y = z)",
		"(f((a < b), c > (d = e)) < x) > (g((a < b), c > (d = e)) ? y : z)",
		"a[(b < c) > (d = e)] < x",
		"(a[(b < c) > (d = e)] < x) > (y = z)",
		"a < ((b < c) > (d = e)) > (x = y)",
		`"(a < b) > (c = d)" < b`,
		`("<" < ">") > (c = d)`,
		"(`<` < \">\") > (c = d)",
	)
}

// P6.1: an Object that is first has no parentheses of its own, where those of the third reason are first then.
func TestLessAndObject(t *testing.T) {
	program().stays(t,
		"({} < a) > (b = c);\n",
		"({}.p < a) > (b = c);\n",
		"({}.p < a) > (b = c) ? {} : {};\n",
		"({}) < a > b;\n",
		"({}).p < a + b > (c = d);\n",
		"({}.p + x < a) | b > (c = d);\n",
		"(({}.p < a) > (b = c)).p = {};\n",
	)
	expr().stays(t,
		"() => ({} < a) > (b = c)",
		"() => ({}).p < a > b",
		"(a < (() => ({}))) > (b = c)",
		"f((a < b), () => ({}), c > (d = e))",
		"a < (() => ({} < b) > (c = d)) > (e = f)",
		"(a < (() => ({p: b}))) > (e = f)",
		"f(() => ({} < a), b > (c = d))",
	)
	expr().becomes(t, "() => (({}.p < a) > (b = c))", "() => ({}.p < a) > (b = c)")
}

// P6.1: the first sign gets its parentheses first, though those of a sign behind it part what it would go through. (So by the chapter's words there is a pair that could go: see P6.4.)
func TestLessInOrder(t *testing.T) {
	expr().stays(t,
		"f((x < y), (a > (b = 1) < c) > (d = e))",
		"[(x < y), (a > (b = 1) < c), z > (d = e)]",
		"f((x < y), z, (a > (b = 1) < c) > (d = e), (x < y) > (b = 1))",
		"f((x < y), (a > (b = 1) < c), (z > (b = 1) < c) > (d = e))",
	)
	program().stays(t, "f((x < y), (a > (b = 1) < c) > (d = e));\n")
}
