package print_test

import (
	"strings"
	"testing"

	"shuck/api"
	"shuck/print"
	"shuck/tree"
)

// P6.1: each line of 'An expression's text'.
func TestExprText(t *testing.T) {
	expr().all(t,
		"0", "0",
		"9", "9",
		`Str "a"`, `"a"`,
		`Str ""`, `""`,
		`Str "\"'`+"`"+`$\\\n\r\t\x00\x1f\x7fé\u20ac"`, `"\"'`+"`"+`$\\\n\r\t\u{0}\u{1f}\u{7f}é€"`,
		"True", "true",
		"False", "false",
		"Null", "null",
		"Undefined", "undefined",
		"This", "this",
		"Name abc", "abc",
		"$_9", "$_9",
		"Array", "[]",
		"Array [a]", "[a]",
		"Array [a, 1, Array [b, c]]", "[a, 1, [b, c]]",
		"Object", "{}",
		"Object [Prop p [a]]", "{p: a}",
		"Object [Prop p [a], Prop q [Object [Prop p [p]]], Prop p [1]]", "{p: a, q: {p: p}, p: 1}",
		"Arrow [L, L, a]", "() => a",
		"Arrow [L, L [Param p [-]], a]", "(p) => a",
		"Arrow [L, L [Param p [-], Param q [-]], a]", "(p, q) => a",
		"Arrow [L, L, Block]", "() => {}",
		"Arrow [L, L [Param p [-]], Block [Return [p]]]", "(p) => {\n  return p;\n}",
		"Unary ! [a]", "!a",
		"Unary - [a]", "-a",
		"Unary ~ [a]", "~a",
		"Unary typeof [a]", "typeof a",
		"Unary typeof [Unary typeof [Unary - [Unary ! [a]]]]", "typeof typeof -!a",
		"Cond [a, b, c]", "a ? b : c",
		"Call [f, L, L]", "f()",
		"Call [f, L, L [a]]", "f(a)",
		"Call [Call [f, L, L], L, L [a, b]]", "f()(a, b)",
		"New [A, L, L]", "new A()",
		"New [A, L, L [a, b]]", "new A(a, b)",
		"New [Member c [Member b [a]], L, L [1]]", "new a.b.c(1)",
		"Member p [a]", "a.p",
		"Member q [Member p [1]]", "1.p.q",
		"Index [a, b]", "a[b]",
		"Index [Index [a, b], Index [c, d]]", "a[b][c[d]]",
		"Super [L]", "super()",
		"Super [L [a, b]]", "super(a, b)",
		"SuperMember p", "super.p",
		"Call [SuperMember p, L, L [a]]", "super.p(a)",
	)
	most := tree.Make(api.Node{Kind: api.Num, Num: api.MaxNumber})
	expr().fits(t, most, "9007199254740991")
}

// P6.1: each sign of a Binary and of an Assign.
func TestSigns(t *testing.T) {
	for _, sign := range strings.Fields(binarySigns) {
		expr().all(t, "Binary "+sign+" [a, b]", "a "+sign+" b")
	}
	for _, sign := range strings.Fields("= += -= *= %=") {
		expr().all(t,
			"Assign "+sign+" [a, b]", "a "+sign+" b",
			"Assign "+sign+" [Member p [a], b]", "a.p "+sign+" b",
			"Assign "+sign+" [Index [a, 0], Assign = [b, c]]", "a[0] "+sign+" b = c")
	}
}

// P6.1: templates: their pieces, and what stands in a hole.
func TestTemplates(t *testing.T) {
	expr().all(t,
		`Template [Str ""]`, "``",
		`Template [Str "a"]`, "`a`",
		`Template [Str "", a, Str ""]`, "`${a}`",
		`Template [Str "a", b, Str "c", d, Str "e"]`, "`a${b}c${d}e`",
		`Template [Str "", Str "\"", Str ""]`, "`${\"\\\"\"}`",
		`Template [Str "\""]`, "`\"`",
		`Template [Str "'"]`, "`'`",
		`Template [Str "\\"]`, "`\\\\`",
		`Template [Str "\\\""]`, "`\\\\\"`",
		`Template [Str "\\\\\"\\"]`, "`\\\\\\\\\"\\\\`",
		"Template [Str \"`\"]", "`\\``",
		"Template [Str \"\\\\`\"]", "`\\\\\\``",
		`Template [Str "$"]`, "`\\$`",
		`Template [Str "${a}"]`, "`\\${a}`",
		`Template [Str "$$", a, Str "}$"]`, "`\\$\\$${a}}\\$`",
		`Template [Str "\n\r\t", a, Str "\x00\x1f\x7f é€"]`, "`\\n\\r\\t${a}\\u{0}\\u{1f}\\u{7f} é€`",
		`Template [Str "", Object, Str ""]`, "`${{}}`",
		`Template [Str "", Assign = [a, b], Str ""]`, "`${a = b}`",
		`Template [Str "", Template [Str "a", Template [Str "b"], Str "c"], Str "d"]`, "`${`a${`b`}c`}d`",
		`Member p [Template [Str "a"]]`, "`a`.p",
	)
}

// P6.1: the chapter's examples.
func TestExamples(t *testing.T) {
	expr().all(t,
		"Binary - [a, Binary - [b, c]]", "a - (b - c)",
		"Unary - [Unary - [1]]", "--1",
		"Binary * [Binary + [a, b], c]", "(a + b) * c",
		"Arrow [L, L, Object]", "() => ({})",
		"Binary > [Binary < [a, b], Cond [c, d, e]]", "(a < b) > (c ? d : e)",
		"Binary > [Binary < [a, b], c]", "a < b > c",
		"Call [f, L, L [Binary < [a, b], Binary > [c, Assign = [d, e]]]]", "f((a < b), c > (d = e))",
		"Call [Arrow [L, L, 1], L, L]", "(() => 1)()",
		"New [A, L, L]", "new A()",
		"Index [1, 0]", "1[0]",
	)
	program().all(t,
		"Program [Eval [Member p [Object]]]", "({}).p;\n",
		"Program [If [a, Block, If [b, Block [Eval [c]], -]]]", "if (a) {} else if (b) {\n  c;\n}\n",
	)
}

const binarySigns = "|| && | ^ & === !== < <= > >= in << >> >>> + - * %"

// level is an expression, told in a line, with its text and its level.
type level struct {
	line, text string
	level      int
}

// levels are expressions of every level, of every kind and sign.
func levels() []level {
	all := []level{
		{"Assign = [a, b]", "a = b", 0}, {"Assign %= [a, b]", "a %= b", 0}, {"Arrow [L, L, a]", "() => a", 0}, {"Arrow [L, L, Block]", "() => {}", 0},
		{"Cond [a, b, c]", "a ? b : c", 1},
		{"Unary ! [a]", "!a", 12}, {"Unary - [1]", "-1", 12}, {"Unary ~ [a]", "~a", 12}, {"Unary typeof [a]", "typeof a", 12},
		{"1", "1", 13}, {`Str "a"`, `"a"`, 13}, {`Template [Str "", a, Str ""]`, "`${a}`", 13}, {"True", "true", 13}, {"False", "false", 13},
		{"Null", "null", 13}, {"Undefined", "undefined", 13}, {"a", "a", 13}, {"This", "this", 13}, {"Array [a]", "[a]", 13},
		{"Object [Prop a [b]]", "{a: b}", 13}, {"Call [f, L, L]", "f()", 13}, {"New [A, L, L]", "new A()", 13}, {"Member p [a]", "a.p", 13},
		{"Index [a, b]", "a[b]", 13}, {"Super [L]", "super()", 13}, {"SuperMember p", "super.p", 13},
	}
	for n, signs := range []string{"||", "&&", "|", "^", "&", "=== !==", "< <= > >= in", "<< >> >>>", "+ -", "* %"} {
		for _, sign := range strings.Fields(signs) {
			all = append(all, level{"Binary " + sign + " [a, b]", "a " + sign + " b", n + 2})
		}
	}
	return all
}

// P6.2: the level of each kind and of each sign.
func TestLevel(t *testing.T) {
	for _, x := range levels() {
		if got := print.Level(of(x.line).Nodes[0]); got != x.level {
			t.Errorf("%s: %d, want %d", x.line, got, x.level)
		}
	}
	// As and Bang are not plain, but expressions.
	others := map[string]int{"As": 13, "Bang": 13}
	for word, kind := range kinds {
		if kind < api.Num || kind > api.Bang || kind == api.Prop {
			others[word] = -1
		}
	}
	for word, want := range others {
		for _, text := range []string{"", "a", "<", "+"} {
			if got := print.Level(api.Node{Kind: kinds[word], Text: text, Num: 1, Kids: []int{0, -1}}); got != want {
				t.Errorf("%s %s: %d, want %d", word, text, got, want)
			}
		}
	}
}

// P6.2: of other kinds than these nothing hangs on Text, Num, Kids, At.
func TestLevelWrong(t *testing.T) {
	for _, text := range []string{"", "a", "=", "+=", "!", "~", "typeof", "as", "==", "<<<", "||=", " +", "+ ", "**", "/", "instanceof", "In"} {
		if got := print.Level(api.Node{Kind: api.Binary, Text: text}); got != -1 {
			t.Errorf("Binary %q: %d", text, got)
		}
	}
	for kind, want := range map[int]int{api.Assign: 0, api.Arrow: 0, api.Cond: 1, api.Unary: 12, api.Num: 13, api.Name: 13, api.SuperMember: 13} {
		for _, text := range []string{"", "a", "<", "no name"} {
			if got := print.Level(api.Node{Kind: kind, Text: text, Num: -7, Kids: []int{5, 5}, At: -1}); got != want {
				t.Errorf("kind %d %q: %d, want %d", kind, text, got, want)
			}
		}
	}
	named := map[int]bool{}
	for _, kind := range kinds {
		named[kind] = true
	}
	for kind := -100; kind < 200; kind++ {
		if got := print.Level(api.Node{Kind: kind, Text: "<"}); !named[kind] && got != -1 {
			t.Errorf("kind %d: %d", kind, got)
		}
	}
	for _, kind := range []int{-1 << 63, 1<<63 - 1} {
		if got := print.Level(api.Node{Kind: kind}); got != -1 {
			t.Errorf("kind %d: %d", kind, got)
		}
	}
}
