package parse_test

import (
	"strings"
	"testing"

	"shuck/api"
	"shuck/lex"
	"shuck/tree"
)

// follows holds what P4.3 and P4.5 say of every tree.
func follows(t *testing.T, text string, x api.Tree) {
	t.Helper()
	if n, e := tree.Check(x); n != -1 || e != api.OK {
		t.Errorf("%q: Check says %d, %v", text, n, e)
	}
	for n, y := range x.Nodes {
		first := -1
		for _, k := range y.Kids {
			if kind := x.Nodes[k].Kind; first < 0 && kind != api.None && kind != api.List {
				first = k
			}
		}
		if y.Kind == api.None || y.Kind == api.List {
			if y.At != 0 {
				t.Errorf("%q: node %d has At %d", text, n, y.At)
			}
		} else if first >= 0 && x.Nodes[first].At < y.At {
			t.Errorf("%q: At falls from node %d to %d", text, n, first)
		}
	}
}

// samples is texts of programs that have every kind of node.
func samples() []string {
	return []string{
		"let x: number = 1; const y: A.B<C>[] = [1, 'a', `b${x}c`];",
		"function f<T>(a: T, b?: (c: T) => -1): T | null { return a; }",
		"class C<T> extends D<T> implements I, J { readonly x: T = 1; y; constructor(public readonly a: T) { super(a); } m<U>(): U { return super.m(); } }",
		"const enum E { A, B = 2, } enum F { A = 'x' } namespace N { export const a = 1; export enum G {} ; }",
		"interface I<T> extends J { a?: {m(x: 1): 's'}, } type T<A> = | A | undefined;",
		"if (a) {} else if (b) { ; } else {} while (!a) { break; continue; }",
		"for (const x of [y]) {} for (let i = 0; i < 9; i += 1) { throw i; }",
		"try { f<A, B<C>>(d); } catch (e) { return; } finally {}",
		"a = b ? c!.d[e] : (f, g?: T) => { h; }; x => ({a, b: x as T, c: <T>(y: T) => y});",
		"f(a < b, c > d, e >> 1 in f, null, undefined, true, false, this, typeof -a, new A.B<C>(1));",
		"let v: A<B<C>>= (a) ? (b) : c => d;",
	}
}

// The samples have every kind of node, so that nothing is left out by what is asked of them.
func TestSamples(t *testing.T) {
	seen := map[int]int{}
	for _, s := range samples() {
		for _, y := range program().taken(t, s).Nodes {
			seen[y.Kind]++
		}
	}
	for kind, word := range kindWords() {
		if seen[kind] == 0 {
			t.Errorf("no sample has a %s", word)
		}
	}
}

// P4.3: Check takes the tree, and it is the only one; P4.5: At never falls.
func TestSamplesFollow(t *testing.T) {
	g := grammar()
	for _, s := range samples() {
		if !agree(t, g, program(), s) {
			t.Errorf("%q is refused", s)
		}
	}
}

// P4.4: blanks and remarks make no difference but to At.
func TestBlanks(t *testing.T) {
	for _, s := range samples() {
		want := program().taken(t, s)
		tokens, _, _ := lex.Tokens([]byte(s))
		for _, blank := range []string{" ", "\n", "\t\r\n", "/* ( */", "// '\n", "/**/ /* */"} {
			var wide strings.Builder
			end := 0
			for i, x := range tokens {
				wide.WriteString(blank + s[x.At:x.End])
				end = x.End
				one := s[:x.At] + blank + s[x.At:]
				if got := program().taken(t, one); !tree.Same(got, want) {
					t.Errorf("%q ahead of token %d of %q: %s", blank, i, s, told(got, 0))
				}
			}
			if end != len(s) {
				t.Fatalf("%q has %d bytes", s, end)
			}
			if got := program().taken(t, wide.String()); !tree.Same(got, want) {
				t.Errorf("%q: %s", wide.String(), told(got, 0))
			}
		}
	}
}

// P4.4: so do brackets about an Expr within brackets, behind `=`, `return`, `throw`, `,` or `:`.
func TestBrackets(t *testing.T) {
	places := []string{
		"(#);", "f(#);", "f(#, #);", "f<A>(#);", "a[#];", "[#];", "[#, #];", "new A(#);", "super(#);", "`a${#}b`;", "`${#}${#}`;",
		"if (#) {}", "while (#) {}", "for (let i = #; #; #) {}", "for (const x of (#)) {}",
		"let x = #;", "const x: A = #;", "a = #;", "a += #;", "return #;", "throw #;", "({a: #});", "({a: #, b: #});", "a ? b : #;",
		"enum E { A = #, B = # }", "class C { x = #; y: A = #; }", "f((#), [(#)]);", "x => { return #; };",
	}
	exprs := []string{
		"a", "1", "'s'", "`a${b}`", "a = b", "a = b = c", "a += 1", "x => y", "x => {}", "(x) => y", "<T>(x: T) => x", "() => a", "a ? b : c", "a ? x => y : z => w", "a || b && c", "a < b", "a > b", "a as A", "a as A | B",
		"-a", "a!", "a.b", "a[b]", "f(a, b)", "f<A>(b)", "a < b > (c)", "new A()", "[a]", "({a})", "{a: 1}", "{}", "this", "super.m", "(a)", "((a) => b)", "a >> b", "typeof a in b", "x => ({})",
	}
	for _, p := range places {
		for _, e := range exprs {
			bare := strings.ReplaceAll(p, "#", e)
			want := program().taken(t, bare)
			for _, about := range []string{"(" + e + ")", "(( " + e + " ))"} {
				text := strings.ReplaceAll(p, "#", about)
				if got := program().taken(t, text); !tree.Same(got, want) {
					t.Errorf("%q: %s, want that of %q: %s", text, told(got, 0), bare, told(want, 0))
				}
			}
		}
	}
}
