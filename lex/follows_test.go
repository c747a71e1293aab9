package lex_test

import (
	"slices"
	"strings"
	"testing"

	"shuck/api"
	"shuck/lex"
)

// samples are texts of every sort: ordinary ones, edges, such as are refused.
func samples() []string {
	return []string{
		"", " ", "a", "let x1 = 10;", "a>>>=b", "a=>b!==c", `"a\u{e9}\n"`, "`a${b}c${ {} }`", "`x$ \\$\\``", "'\\'' of", "'\xff'",
		"// x", "/* x */", "a // x\nb /* y */ c", "/**/1/**/+/**/2/**/", "f<A<B<C>>>(x)[0].y", "`${`${a}`}` + '}' + `}`", "}{}}", "`a${b",
		"class A<T> extends B implements C { constructor(public readonly x?: number) { super(); } }",
		"enum E { a = 1 << 2, b = ~a, c = 'x' } namespace N { export const y = E.a; }",
		"for (const x of [1, 2]) { try { throw `x${x}y`; } catch (e) { print(e); } finally { ; } }",
		"/* x", "/*/", "1a", "01", "9007199254740991", "9007199254740992", "\"", "'a\nb'", "`a${b}c", "==", "/", "é", "a\xffb", `"\u{d800}"`, `"\u{110000}"`, `'\x'`, "a # b",
	}
}

// accepted are the samples that are tokens, and their tokens.
func accepted() map[string][]api.Token {
	all := map[string][]api.Token{}
	for _, s := range samples() {
		if l, _, e := lex.Tokens([]byte(s)); e == api.OK {
			all[s] = l
		}
	}
	return all
}

// kindsAndTexts is tokens without their bytes.
func kindsAndTexts(s string) []api.Token {
	l, _, _ := lex.Tokens([]byte(s))
	for i := range l {
		l[i].At, l[i].End = 0, 0
	}
	return l
}

// P2.5: the tokens lie one behind the other, with blanks and remarks alone between them.
func TestTokensLie(t *testing.T) {
	for s, l := range accepted() {
		end := 0
		for _, x := range l {
			if x.At < end || x.End < x.At || x.End > len(s) || (x.At == x.End) != (x.Kind == api.TokEnd) {
				t.Errorf("%q: %v behind %d", s, x, end)
				break
			}
			if between := kindsAndTexts(s[end:x.At] + "\n"); len(between) != 1 {
				t.Errorf("%q: %v between tokens", s, between)
			}
			end = x.End
		}
		if end != len(s) {
			t.Errorf("%q: the end is at %d", s, end)
		}
	}
}

// P2.5: a token's bytes alone are that token.
func TestTokensAlone(t *testing.T) {
	for s, l := range accepted() {
		for _, x := range l {
			if x.Kind == api.TokMiddle || x.Kind == api.TokTail || x.Kind == api.TokEnd {
				continue
			}
			want := []api.Token{{Kind: x.Kind, Text: x.Text}, {Kind: api.TokEnd}}
			if got := kindsAndTexts(s[x.At:x.End]); !slices.Equal(got, want) {
				t.Errorf("%q of %q: %v", s[x.At:x.End], s, got)
			}
		}
	}
}

// P2.6: blanks and remarks between two tokens change no kind and no text.
func TestBlanksBetween(t *testing.T) {
	for s, l := range accepted() {
		want := kindsAndTexts(s)
		for _, blank := range []string{" ", "\n", "\t\r", "// x\n", "/* x */", "/**/", " /* \n // ` */ // '\n"} {
			var all strings.Builder
			end := 0
			for _, x := range l {
				all.WriteString(s[end:x.At])
				one := s[:x.At] + blank + s[x.At:]
				// Ahead of the end a remark of the text itself may stand, which takes in what is laid behind it.
				if got := kindsAndTexts(one); !slices.Equal(got, want) && !strings.Contains(s[end:x.At], "//") {
					t.Errorf("%q: %v, want %v", one, got, want)
				}
				if !strings.Contains(s[end:x.At], "//") {
					all.WriteString(blank)
				}
				all.WriteString(s[x.At:x.End])
				end = x.End
			}
			if got := kindsAndTexts(all.String()); !slices.Equal(got, want) {
				t.Errorf("%q: %v, want %v", all.String(), got, want)
			}
		}
	}
}

// P2.6: so do blanks in the place of a remark.
func TestBlanksForRemarks(t *testing.T) {
	for s, blanks := range map[string]string{
		"a/* x */b":             "a b",
		"a/**/b/*\n*/c":         "a\tb\r\nc",
		"1/* */a":               "1 a",
		"a // x\nb":             "a \n\nb",
		"a//":                   "a ",
		">/**/>":                "> >",
		"=/**/=/**/=":           "= = =",
		"`${a/*}*/}b${/*`*/c}`": "`${a }b${ c}`",
		"/*a*///b":              "  ",
	} {
		if got, want := kindsAndTexts(s), kindsAndTexts(blanks); len(want) == 0 || !slices.Equal(got, want) {
			t.Errorf("%q: %v; %q: %v", s, got, blanks, want)
		}
	}
}
