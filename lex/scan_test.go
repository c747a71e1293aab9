package lex_test

import (
	"slices"
	"strconv"
	"strings"
	"testing"

	"shuck/api"
	"shuck/lex"
)

// P2.1: tokens of ordinary texts, with the bytes between which they stand.
func TestScan(t *testing.T) {
	want := []scanned{
		{api.Token{Kind: api.TokWord, Text: "let", At: 0, End: 3}, api.OK},
		{api.Token{Kind: api.TokName, Text: "x1", At: 4, End: 6}, api.OK},
		{api.Token{Kind: api.TokSign, Text: "=", At: 7, End: 8}, api.OK},
		{api.Token{Kind: api.TokNumber, Text: "10", At: 9, End: 11}, api.OK},
		{api.Token{Kind: api.TokString, Text: "é", At: 12, End: 16}, api.OK},
		{api.Token{Kind: api.TokHead, Text: "a", At: 16, End: 20}, api.OK},
		{api.Token{Kind: api.TokMiddle, Text: "b", At: 20, End: 24}, api.OK},
		{api.Token{Kind: api.TokTail, Text: "", At: 25, End: 27}, api.OK},
		{api.Token{Kind: api.TokWhole, Text: "\n", At: 27, End: 31}, api.OK},
		{api.Token{Kind: api.TokSign, Text: ";", At: 31, End: 32}, api.OK},
		{api.Token{Kind: api.TokEnd, Text: "", At: 33, End: 33}, api.OK},
	}
	if got := scan("let x1 = 10 'é'`a${}b${ }``\\n`; "); !slices.Equal(got, want) {
		t.Errorf("%v\nwant %v", got, want)
	}
	for s, want := range map[string]string{
		"":               `end""`,
		" \t\r\n":        `end""`,
		"let x1 = 10;":   `word"let" name"x1" sign"=" number"10" sign";" end""`,
		"a>>>=b":         `name"a" sign">>>" sign"=" name"b" end""`,
		"a=>b":           `name"a" sign"=>" name"b" end""`,
		"a.b?.c":         `name"a" sign"." name"b" sign"?" sign"." name"c" end""`,
		"f(1,[2]);":      `name"f" sign"(" number"1" sign"," sign"[" number"2" sign"]" sign")" sign";" end""`,
		"Map<A<B>>":      `name"Map" sign"<" name"A" sign"<" name"B" sign">>" end""`,
		"a\x0bb":         `name"a" error 3 at 1`,
		"a b é c":        `name"a" name"b" error 3 at 4`,
		"a # b":          `name"a" error 3 at 2`,
		"a\xffb":         `name"a" error 3 at 1`,
		"a\u00a0b":       `name"a" error 3 at 1`,
		"\ufeffa":        `error 3 at 0`,
		"a @b":           `name"a" error 3 at 2`,
		"\\":             `error 3 at 0`,
		"x\x00":          `name"x" error 3 at 1`,
		"a / b":          `name"a" error 3 at 2`,
		"a */":           `name"a" sign"*" error 3 at 3`,
		"\"a\" 'b' 1\"c": `string"a" string"b" number"1" error 3 at 9`,
	} {
		if got := said(s); got != want {
			t.Errorf("%q: %s\nwant %s", s, got, want)
		}
	}
}

// P2.1: remarks are no tokens; one that has no end is an error at its own byte.
func TestRemarks(t *testing.T) {
	for s, want := range map[string]string{
		"//":              `end""`,
		"// x":            `end""`,
		"a// x":           `name"a" end""`,
		"// x\na":         `name"a" end""`,
		"// x\ra":         `end""`,
		"//\n//\na//":     `name"a" end""`,
		"// /* \na":       `name"a" end""`,
		"// \xff é\na":    `name"a" end""`,
		"/**/":            `end""`,
		"/***/a":          `name"a" end""`,
		"/* x */":         `end""`,
		"/* \n\r */a":     `name"a" end""`,
		"/* /* */a":       `name"a" end""`,
		"/* // */a":       `name"a" end""`,
		"/* * / \xff */a": `name"a" end""`,
		"/**//**/a/**/b":  `name"a" name"b" end""`,
		"a/* */b":         `name"a" name"b" end""`,
		"1/* */a":         `number"1" name"a" end""`,
		">/**/>":          `sign">" sign">" end""`,
		"/* x":            `error 3 at 0`,
		"/*":              `error 3 at 0`,
		"/*/":             `error 3 at 0`,
		"/**":             `error 3 at 0`,
		"/* * /":          `error 3 at 0`,
		"a /*/ b":         `name"a" error 3 at 2`,
		"ab\n  /* x":      `name"ab" error 3 at 5`,
		"/**/ /* //":      `error 3 at 5`,
		"// x\n/":         `error 3 at 5`,
		"'//' `/* */`":    `string"//" whole"/* */" end""`,
		"`${/*}*/}`":      `head"" tail"" end""`,
		"`${//}`\n}`":     `head"" tail"" end""`,
	} {
		if got := said(s); got != want {
			t.Errorf("%q: %s\nwant %s", s, got, want)
		}
	}
}

// P2.1: the reserved words are those of the list, and no other.
func TestWords(t *testing.T) {
	words := strings.Split(reserved, ", ")
	if len(words) != 36 {
		t.Fatal(len(words))
	}
	for _, w := range words {
		if x, ok := only(t, w); ok && x != (api.Token{Kind: api.TokWord, Text: w, End: len(w)}) {
			t.Errorf("%s: %v", w, x)
		}
		for _, n := range []string{w + "1", w + "_", "$" + w, w + "s", strings.ToUpper(w), strings.ToUpper(w[:1]) + w[1:], w[:len(w)-1] + "_"} {
			if x, ok := only(t, n); ok && x != (api.Token{Kind: api.TokName, Text: n, End: len(n)}) {
				t.Errorf("%s: %v", n, x)
			}
		}
	}
	for _, n := range []string{"a", "Z", "z", "A", "_", "$", "$$", "_0", "a9Z_$", "var", "async", "await", "void", "any", "number", "string", "boolean", "never", "unknown", "private", "static", "delete", "switch", "default", "do", "is", "keyof", "declare"} {
		if x, ok := only(t, n); ok && x != (api.Token{Kind: api.TokName, Text: n, End: len(n)}) {
			t.Errorf("%s: %v", n, x)
		}
	}
}

// P2.1: what begins a token, and what goes on a name, byte by byte.
func TestEveryByte(t *testing.T) {
	const letters = "ABCDEFGHIJKLMNOPQRSTUVWXYZabcdefghijklmnopqrstuvwxyz_$"
	for c := range 256 {
		s := string([]byte{byte(c)})
		var want string
		switch {
		case strings.Contains("\t\n\r ", s):
			want = `end""`
		case strings.Contains(letters, s):
			want = `name"` + s + `" end""`
		case strings.Contains("0123456789", s):
			want = `number"` + s + `" end""`
		case strings.Contains("{}()[].,;:?=+-*%!~<>&|^", s):
			want = `sign"` + s + `" end""`
		default:
			want = "error 3 at 0"
		}
		if got := said(s); got != want {
			t.Errorf("%q: %s, want %s", s, got, want)
		}
		on := strings.Contains(letters+"0123456789", s)
		if got := scan("q" + s)[0].t; (got.End == 2) != on {
			t.Errorf("q and %q: %v", s, got)
		}
	}
}

// P2.1: numbers.
func TestNumbers(t *testing.T) {
	for _, s := range []string{"0", "1", "9", "10", "100", "1234567890", "9007199254740990", "9007199254740991"} {
		if x, ok := only(t, s); ok && x != (api.Token{Kind: api.TokNumber, Text: s, End: len(s)}) {
			t.Errorf("%s: %v", s, x)
		}
	}
	for _, s := range []string{
		"00", "01", "007", "0000000000000000000000000001", "9007199254740992", "9007199254740999", "9999999999999999", "10000000000000000",
		"18446744073709551615", "18446744073709551616", "18446744073709551617", "36893488147419103233", "1" + strings.Repeat("0", 60000),
		"1a", "1A", "1_", "1$", "0x1", "0b", "1e5", "9007199254740992a", "1_000", "1let", "12z",
	} {
		refused(t, s, 0)
		refused(t, "a b "+s, 4)
	}
	for s, want := range map[string]string{
		"1.5":   `number"1" sign"." number"5" end""`,
		"0.05":  `number"0" sign"." error 3 at 2`,
		"-1":    `sign"-" number"1" end""`,
		"1 a":   `number"1" name"a" end""`,
		"1é":    `number"1" error 3 at 1`,
		"1\xff": `number"1" error 3 at 1`,
		"1'a'":  `number"1" string"a" end""`,
		"1`a`":  `number"1" whole"a" end""`,
		"0\n1":  `number"0" number"1" end""`,
		"a01":   `name"a01" end""`,
	} {
		if got := said(s); got != want {
			t.Errorf("%q: %s\nwant %s", s, got, want)
		}
	}
}

// P2.1: each sign alone, and the longest one first.
func TestSigns(t *testing.T) {
	const all = "{ } ( ) [ ] . , ; : ? => = += -= *= %= === !== + - * % ! ~ < <= > >= << >> >>> && & || | ^"
	signs := strings.Fields(all)
	if len(signs) != 37 {
		t.Fatal(len(signs))
	}
	for _, s := range signs {
		if x, ok := only(t, s); ok && x != (api.Token{Kind: api.TokSign, Text: s, End: len(s)}) {
			t.Errorf("%s: %v", s, x)
		}
		if x, ok := only(t, " "+s+" "); ok && x != (api.Token{Kind: api.TokSign, Text: s, At: 1, End: 1 + len(s)}) {
			t.Errorf("%s: %v", s, x)
		}
	}
	for s, want := range map[string]string{
		"==":      "= =",
		"!=":      "! =",
		"++":      "+ +",
		"--":      "- -",
		"**":      "* *",
		"====":    "=== =",
		"======":  "=== ===",
		"==>":     "= =>",
		"===>":    "=== >",
		"=>=":     "=> =",
		"=>>>":    "=> >>",
		"!===":    "!== =",
		"!!==":    "! !==",
		"<=>":     "<= >",
		"<<=":     "<< =",
		"<<<":     "<< <",
		">>=":     ">> =",
		">>>=":    ">>> =",
		">>>>":    ">>> >",
		">>>>>>>": ">>> >>> >",
		">==":     ">= =",
		">===":    ">= = =",
		"&&&":     "&& &",
		"&=":      "& =",
		"|||":     "|| |",
		"||=":     "|| =",
		"^=":      "^ =",
		"+=+":     "+= +",
		"-=>":     "-= >",
		"*==":     "*= =",
		"%=%":     "%= %",
		"~=":      "~ =",
		"...":     ". . .",
		"??":      "? ?",
		"?.":      "? .",
		"){}(][":  ") { } ( ] [",
	} {
		var got []string
		for _, x := range scan(s) {
			if x.e != api.OK || x.t.Kind != api.TokSign && x.t.Kind != api.TokEnd {
				t.Errorf("%s: %v", s, x)
			}
			got = append(got, x.t.Text)
		}
		if g := strings.Join(got, " "); g != want+" " {
			t.Errorf("%s: %s, want %s", s, g, want)
		}
	}
}

// P2.1, P2.2: a text of MaxBytes bytes is scanned, one of a byte more refused ahead of all else.
func TestMostBytes(t *testing.T) {
	for _, x := range []struct {
		s    string
		want scanned
	}{
		{strings.Repeat(" ", api.MaxBytes), scanned{api.Token{Kind: api.TokEnd, At: api.MaxBytes, End: api.MaxBytes}, api.OK}},
		{strings.Repeat("a", api.MaxBytes), scanned{api.Token{Kind: api.TokName, Text: strings.Repeat("a", api.MaxBytes), End: api.MaxBytes}, api.OK}},
		{strings.Repeat("9", api.MaxBytes), scanned{api.Token{}, api.ErrToken}},
		{"'" + strings.Repeat("a", api.MaxBytes-2) + "'", scanned{api.Token{Kind: api.TokString, Text: strings.Repeat("a", api.MaxBytes-2), End: api.MaxBytes}, api.OK}},
		{strings.Repeat(" ", api.MaxBytes+1), scanned{api.Token{}, api.ErrBytes}},
		{strings.Repeat("#", api.MaxBytes+1), scanned{api.Token{}, api.ErrBytes}},
		{strings.Repeat(";", api.MaxBytes+1), scanned{api.Token{}, api.ErrBytes}},
		{"/*" + strings.Repeat(" ", 3*api.MaxBytes), scanned{api.Token{}, api.ErrBytes}},
	} {
		all := scan(x.s)
		if all[0] != x.want {
			t.Errorf("%d of %q: error %d, byte %d", len(x.s), x.s[:2], all[0].e, all[0].t.At)
		}
		if x.want.e != api.OK && len(all) != 1 {
			t.Errorf("%d of %q: %d pairs", len(x.s), x.s[:2], len(all))
		}
		if l, at, e := lex.Tokens([]byte(x.s)); e != x.want.e || at != 0 || (len(l) == 0) != (e != api.OK) {
			t.Errorf("Tokens of %d of %q: %d tokens, byte %d, error %d", len(x.s), x.s[:2], len(l), at, e)
		}
	}
}

// P2.1, P2.2: MaxTokens tokens and the end; the byte of the next one; what is no token there is ErrToken.
func TestMostTokens(t *testing.T) {
	full := strings.Repeat("a ", api.MaxTokens)
	holes := "`" + strings.Repeat("${}", api.MaxTokens-1) + "`"
	for _, x := range []struct {
		s      string
		tokens int
		at     int
		e      api.Errno
	}{
		{full, api.MaxTokens + 1, 0, api.OK},
		{full + " // x", api.MaxTokens + 1, 0, api.OK},
		{full + " /* x */ ", api.MaxTokens + 1, 0, api.OK},
		{full[2:] + "b", api.MaxTokens + 1, 0, api.OK},
		{holes, api.MaxTokens + 1, 0, api.OK},
		{full + "b", 0, 2 * api.MaxTokens, api.ErrTokens},
		{full + " /* */ b # c", 0, 2*api.MaxTokens + 7, api.ErrTokens},
		{full + "'b'", 0, 2 * api.MaxTokens, api.ErrTokens},
		{full + "`b`", 0, 2 * api.MaxTokens, api.ErrTokens},
		{holes + ";", 0, len(holes), api.ErrTokens},
		{full + " #", 0, 2*api.MaxTokens + 1, api.ErrToken},
		{full + " 01", 0, 2*api.MaxTokens + 1, api.ErrToken},
		{full + " 'b", 0, 2*api.MaxTokens + 1, api.ErrToken},
		{full + " /* ", 0, 2*api.MaxTokens + 1, api.ErrToken},
		{full + "b #", 0, 2 * api.MaxTokens, api.ErrTokens},
		{full[2:] + "# b b b", 0, 2*api.MaxTokens - 2, api.ErrToken},
		{full + full, 0, 2 * api.MaxTokens, api.ErrTokens},
	} {
		end := x.s[max(0, len(x.s)-8):]
		l, at, e := lex.Tokens([]byte(x.s))
		if len(l) != x.tokens || at != x.at || e != x.e {
			t.Errorf("..%s: %d tokens, byte %d, error %d", end, len(l), at, e)
		}
		all := scan(x.s)
		last := all[len(all)-1]
		if x.e != api.OK && last != (scanned{api.Token{At: x.at}, x.e}) {
			t.Errorf("..%s: %v", end, last)
		}
		if x.e == api.ErrTokens && len(all) != api.MaxTokens+1 {
			t.Errorf("..%s: %d pairs", end, len(all))
		}
	}
}

// P2.2: Tokens is what Scan hands on, or the error alone.
func TestTokens(t *testing.T) {
	for _, s := range samples() {
		all := scan(s)
		l, at, e := lex.Tokens([]byte(s))
		last := all[len(all)-1]
		if last.e != api.OK {
			if len(l) != 0 || at != last.t.At || e != last.e || last.t != (api.Token{At: at}) {
				t.Errorf("%q: %v, %d, %d; Scan: %v", s, l, at, e, last)
			}
			continue
		}
		if e != api.OK || at != 0 || len(l) != len(all) {
			t.Errorf("%q: %v, %d, %d; Scan: %v", s, l, at, e, all)
			continue
		}
		for i, x := range all {
			if x.e != api.OK || x.t != l[i] || (x.t.Kind == api.TokEnd) != (i == len(all)-1) {
				t.Errorf("%q, %d: %v; Scan: %v", s, i, l[i], x)
			}
		}
	}
}

// P2.1, P2.2: nil is the empty text.
func TestNil(t *testing.T) {
	want := api.Token{Kind: api.TokEnd}
	if l, at, e := lex.Tokens(nil); len(l) != 1 || l[0] != want || at != 0 || e != api.OK {
		t.Error(l, at, e)
	}
	n := 0
	for x, e := range lex.Scan(nil) {
		n++
		if x != want || e != api.OK {
			t.Error(x, e)
		}
	}
	if n != 1 {
		t.Error(n)
	}
}

// P2.1: every short text over the characters that mean something is as the words say.
func TestEveryShortText(t *testing.T) {
	w := newSlow()
	for _, x := range []struct {
		letters []string
		most    int
	}{
		{[]string{"a", "0", "9", "\"", "'", "`", "$", "{", "}", "\\", "/", "*", "\n", "\r", ">", "=", "\xff", "#"}, 3},
		{[]string{"`", "${", "{", "}", "\\", "$", "a"}, 6},
		{[]string{"/", "*", "\n", "a", "\"", "'"}, 6},
		{[]string{">", "=", "!", "<", "&", "|"}, 6},
		{[]string{"\"", "\\", "u{", "}", "0", "D", "8", "1"}, 6},
		{[]string{"\xc3", "\xa9", "\"", "\\", "`"}, 6},
	} {
		everyText(x.letters, x.most, "", func(s string) {
			if got, want := scan(s), w.all(s); !slices.Equal(got, want) {
				t.Errorf("%q: %v\nwant %v", s, got, want)
			}
		})
	}
}

// everyText does something with each text of at most so many letters.
func everyText(letters []string, most int, begin string, do func(string)) {
	do(begin)
	if most == 0 {
		return
	}
	for _, c := range letters {
		everyText(letters, most-1, begin+c, do)
	}
}

func FuzzScan(f *testing.F) {
	for _, s := range samples() {
		f.Add(s)
	}
	w := newSlow()
	f.Fuzz(func(t *testing.T, s string) {
		if got, want := scan(s), w.all(s); !slices.Equal(got, want) {
			t.Errorf("%s: %v\nwant %v", strconv.Quote(s), got, want)
		}
	})
}
