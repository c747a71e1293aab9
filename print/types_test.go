package print_test

import (
	"math/rand/v2"
	"strings"
	"testing"

	"shuck/api"
	"shuck/lex"
	"shuck/print"
)

// calls holds each `<` of a text against chapter 4, and is how many of them begin the TypeArgs of a call.
func calls(t *testing.T, text string) int {
	t.Helper()
	tokens, at, e := lex.Tokens([]byte(text))
	if e != api.OK {
		t.Fatalf("%q: %d, %v", text, at, e)
	}
	count := 0
	for i, got := range print.Calls(tokens) {
		token := tokens[i]
		want := token.Kind == api.TokSign && token.Text == "<" && begins(text[token.At:])
		if got != want {
			t.Errorf("%q, token %d: %v, want %v", text, i, got, want)
		}
		if got {
			count++
		}
	}
	return count
}

// P6.1: every way of chapter 4's grammar of types is gone through.
func TestTypes(t *testing.T) {
	for _, text := range []string{
		"A", "A.B.C", "null", "undefined", "true", "false", "1", "-1", `"a"`, "'<'", "| A", "A | B", "| A | B | C", "A[]", "A[][]", "A[] | B[]",
		"(A)", "((A))", "(A | B)[]", "(| A)", "{}", "{}[]", "{a: A}", "{a: A,}", "{a: A;}", "{a: A, b: B; c: C}", "{a?: A}", "{a: {b: {}}}",
		"{m(): A}", "{m(a): A}", "{m(a: A, b?: B, c?): A | B; n(): {}}", "{m(f: () => A): () => B}",
		"() => A", "(a) => A", "(a, b) => A", "(a: A) => B", "(a?: A, b?) => B", "() => A | B", "() => () => A", "(() => A)[]", "A | () => B",
		"(f: (a: A) => B) => C", "({a: A})", "(a: {m(): A}) => B[]",
		"A<B>", "A<B>[]", "A<B> | C", "A<B<C>>", "A<B<C<D>>>", "A<B, C>", "A<B<C>, D<E>>", "A.B<C>", "A<() => B>", "(a: A<B>) => C<D>", "{a: A<B>}",
		"A, B", "A<B>, C<D>", "A[], {}, 1",
	} {
		if n := calls(t, "x<"+text+">(y)"); n != 1 {
			t.Errorf("%s: %d", text, n)
		}
		// With another token behind, or none, there is no call.
		for _, behind := range []string{"", " y", "[", ".", ">", "=", "`y`", `"("`, "{", "<(y)"} {
			if n := calls(t, "x<"+text+">"+behind); n != 0 {
				t.Errorf("%s, %s: %d", text, behind, n)
			}
		}
		// Within others; in brackets that are open; where the sign has more characters than one.
		for _, x := range []string{"x < y < # > (z)", "x<y<#>>(z)", "x<y<z<#>>>(z)", "f(x, [y<#>(z", "x<#>(y<#>(z))", "`${x<#>(`y${z}`)}<`"} {
			if n := calls(t, strings.ReplaceAll(x, "#", text)); n == 0 {
				t.Errorf("%s in %s", text, x)
			}
		}
	}
}

// P6.1: what is no type is not gone through.
func TestNoTypes(t *testing.T) {
	for _, text := range []string{
		"", ",", "A,", ",A", "|", "A |", "A || B", "| | A", "A B", "A.", ".A", "A.1", "A.null", "null.A", "null<A>", "A[", "A]", "A[1]", "[]", "[A]", "A()", "this", "if", "typeof a",
		"-", "- -1", "-A", "+1", "1.a", "1<A>", `"a"<A>`, "`a`", "`a${b}c`", "()", "(A", "A)", "(A, B)", "(A) B", "(A]", "(A;)", "{", "}", "{,}", "{;}", "{a}", "{a: }", "{a: A,,}", "{a: A b: B}",
		"{1: A}", "{a: A)", "{a??: A}", "{a?}", "{m()}", "{m() => A}", "{m?(): A}", "{m<T>(): A}", "{m(): }", "{m(: A}", "{m(a b): A}",
		"() =>", "() A", "() : A", "(a,) => A", "(, a) => A", "(1) => A", "(public a) => A", "(readonly a) => A", "(a?:) => A", "(a[]) => A", "(a | b) => A", "(a: A;) => B", "(a: A => B", "((a)) => A", "({}) => A",
		"A<", "A<>", "A<B", "A<B,>", "A[]<B>", "(A)<B>", "{}<A>", "A<B> C", "A<B>.C", "A<B>=", "A<B>=>C", "A<B>>=", "A = B", "A + B", "A & B", "A ? B : C", "A!", "A as B",
	} {
		if n := calls(t, "x<"+text+">(y)"); n > 1 || n == 1 && !strings.Contains(text, "<") {
			t.Errorf("%s: %d", text, n)
		}
	}
}

// P6.1: rows of tokens by chance: chapter 4 tells of each `<` the same.
func TestTypesByChance(t *testing.T) {
	words := strings.Split("<#<#<#<#<#>#>#>>#>>>#>=#(#)#[ ]#[#]#{ }#{#}#{ A :#( A ) =>#( ) =>#> (#> (#< A#< A ,#,#,#;#:#?#|#|#A . B#.#- 1#-#=>#=#+#1#'a'#`b`#`c${#}d`#null#true#this#A#A#A#A#A#B", "#")
	r := rand.New(rand.NewPCG(7, 6))
	found, several := 0, 0
	for n := range 60000 {
		l := []string{"A", "<"}
		for range r.IntN(4 + n%12) {
			l = append(l, words[r.IntN(len(words))])
		}
		text := strings.Join(append(l, ">", "("), " ")
		if _, _, e := lex.Tokens([]byte(text)); e != api.OK {
			continue
		}
		switch count := calls(t, text); {
		case count == 1:
			found++
		case count > 1:
			several++
		}
		if t.Failed() {
			return
		}
	}
	if found < 3000 || several < 20 {
		t.Errorf("only %d texts with a call, %d with more", found, several)
	}
}

// typeText is a type by chance.
func typeText(r *rand.Rand, deep int) string {
	some := func(one func() string, between string) string {
		var l []string
		for range r.IntN(3) {
			l = append(l, one())
		}
		return strings.Join(l, between)
	}
	inner := func() string { return typeText(r, deep-1) }
	mark := func() string { return []string{"", "?"}[r.IntN(2)] }
	param := func() string { return []string{"a" + mark(), "b" + mark() + ": " + inner()}[r.IntN(2)] }
	piece := func() string {
		return []string{"p" + mark() + ": " + inner(), "m(" + some(param, ", ") + "): " + inner()}[r.IntN(2)]
	}
	if deep <= 0 {
		return []string{"A", "A.B", "null", "1", "-2", `"a"`, "{}"}[r.IntN(7)]
	}
	switch r.IntN(7) {
	case 0:
		return inner() + " | " + inner()
	case 1:
		return inner() + "[]"
	case 2:
		return "(" + inner() + ")"
	case 3:
		return "(" + some(param, ", ") + ") => " + inner()
	case 4:
		return "{" + some(piece, []string{", ", "; "}[r.IntN(2)]) + "}"
	}
	return "A<" + inner() + []string{"", ", " + inner()}[r.IntN(2)] + ">"
}

// P6.1: types by chance, whole and with a token more or less: chapter 4 tells of each `<` the same.
func TestSpoiledTypes(t *testing.T) {
	r := rand.New(rand.NewPCG(8, 6))
	whole, kept := 0, 0
	for n := range 20000 {
		text := "x < " + typeText(r, n%6) + " > (y)"
		whole += calls(t, text)
		tokens, _, _ := lex.Tokens([]byte(text))
		at := r.IntN(len(tokens))
		spoiled := text[:tokens[at].At] + []string{"", ">", "<", "(", ")", "=>", "A", ",", "|"}[r.IntN(9)] + " " + text[tokens[at].End:]
		if _, _, e := lex.Tokens([]byte(spoiled)); e == api.OK {
			kept += calls(t, spoiled)
		}
		if t.Failed() {
			return
		}
	}
	if whole < 20000 || kept < 1000 || kept > 19000 {
		t.Errorf("only %d calls, and %d of those that were spoiled", whole, kept)
	}
}

// P6.1: the same of texts that nobody thought of.
func FuzzTypes(f *testing.F) {
	for _, text := range []string{"a<b>(c)", "a<{p?: A; m(a): B[]}>(c)", "a<(b) => -1 | 'c', D<E<F>>>(`${a<b>(c)}`)"} {
		f.Add(text)
	}
	f.Fuzz(func(t *testing.T, text string) {
		tokens, _, e := lex.Tokens([]byte(text))
		// Of what may stand ahead of the `(`, begins knows blanks and 0A alone; and deep texts chapter 4 does not take.
		if e != api.OK || strings.Contains(text, "//") || strings.Contains(text, "/*") || strings.ContainsAny(text, "\t\r") {
			return
		}
		if _, deep := lex.Depth(tokens, api.MaxDepth); deep >= 0 || len(text) > 1000 {
			return
		}
		calls(t, text)
	})
}
