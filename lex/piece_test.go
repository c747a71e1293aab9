package lex_test

import (
	"fmt"
	"strings"
	"testing"
	"unicode/utf8"

	"shuck/api"
	"shuck/lex"
)

// inMarks is a text between the marks of strings and of templates.
func inMarks(s string) []string {
	return []string{`"` + s + `"`, `'` + s + `'`, "`" + s + "`"}
}

// P2.1: every escape, in strings and templates.
func TestEscapes(t *testing.T) {
	for s, want := range map[string]string{
		`\n`: "\n", `\r`: "\r", `\t`: "\t", `\0`: "\x00", `\\`: `\`, `\"`: `"`, `\'`: `'`, `\$`: "$", "\\`": "`",
		`\u{0}`: "\x00", `\u{000000}`: "\x00", `\u{41}`: "A", `\u{000041}`: "A", `\u{e9}`: "é", `\u{E9}`: "é", `\u{aBc}`: "\u0abc",
		`\u{D7FF}`: "\ud7ff", `\u{d7ff}`: "\ud7ff", `\u{E000}`: "\ue000", `\u{FFFD}`: "\ufffd", `\u{10FFFF}`: "\U0010ffff", `\u{10ffff}`: "\U0010ffff",
		`\u{a}\u{d}`: "\n\r", `\n\n`: "\n\n", `a\tb\\n`: "a\tb\\n", `\01`: "\x001", `\u{22}\u{27}\u{60}`: "\"'`", `\\u{41}`: `\u{41}`, `\${a}`: "${a}", `\u{24}{a}`: "${a}",
	} {
		for _, b := range inMarks(s) {
			x, ok := only(t, b)
			if ok && (x.Text != want || x.At != 0 || x.End != len(b)) {
				t.Errorf("%s: %q, %v; want %q", b, x.Text, x, want)
			}
		}
	}
	for _, s := range []string{
		`\u`, `\u{`, `\u{}`, `\u41`, `\u0041`, `\u{g}`, `\u{ 41}`, `\u{41 }`, `\u{4_1}`, `\u{+41}`, `\u{-1}`, `\u{0x41}`, `\u{41`, `\U{41}`, `\u(41)`,
		`\u{D800}`, `\u{d800}`, `\u{DBFF}`, `\u{DC00}`, `\u{DFFF}`, `\u{dfff}`, `\u{00D800}`, `\u{110000}`, `\u{FFFFFF}`, `\u{0000041}`, `\u{0010FFFF}`, `\u{100000041}`,
		`\u{é}`, "\\u{\xff}", "\\\n", "\\\r", "\\\r\n", "\\\xff", `\é`, `\ `, "\\\x00",
	} {
		for _, b := range inMarks(s) {
			refused(t, b, 0)
			refused(t, "ab\n"+b+" c", 3)
		}
	}
}

// P2.1: of the single characters behind a backslash those of the list are an escape, and no other.
func TestEveryEscape(t *testing.T) {
	for c := range 256 {
		s := string([]byte{'\\', byte(c)})
		good := strings.Contains("nrt0\\\"'$`", s[1:])
		for _, b := range inMarks("a" + s + "b") {
			_, _, e := lex.Tokens([]byte(b))
			if good != (e == api.OK) {
				t.Errorf("%q: error %d", b, e)
			}
		}
	}
}

// P2.1: every rune by its number, and around the ones that are none.
func TestEveryNumberedRune(t *testing.T) {
	var b strings.Builder
	var want []rune
	check := func() {
		l, _, e := lex.Tokens([]byte(`"` + b.String() + `"`))
		if e != api.OK || l[0].Text != string(want) {
			t.Errorf("up to %x: error %d", want[len(want)-1], e)
		}
		b.Reset()
		want = want[:0]
	}
	for r := rune(0); r <= 0x110010; r++ {
		s := fmt.Sprintf(`\u{%x}`, r)
		if !utf8.ValidRune(r) {
			if _, at, e := lex.Tokens([]byte(`"` + s + `"`)); e != api.ErrToken || at != 0 {
				t.Fatalf("%s: byte %d, error %d", s, at, e)
			}
			continue
		}
		b.WriteString(s)
		want = append(want, r)
		if b.Len() > 60000 {
			check()
		}
	}
	check()
}

// P2.1: what stands in strings as itself.
func TestStrings(t *testing.T) {
	for s, want := range map[string]api.Token{
		`""`:                     {Kind: api.TokString, Text: "", End: 2},
		`''`:                     {Kind: api.TokString, Text: "", End: 2},
		`"'"`:                    {Kind: api.TokString, Text: "'", End: 3},
		`'"'`:                    {Kind: api.TokString, Text: `"`, End: 3},
		"'`${a}`'":               {Kind: api.TokString, Text: "`${a}`", End: 8},
		`"$"`:                    {Kind: api.TokString, Text: "$", End: 3},
		`"// /* x"`:              {Kind: api.TokString, Text: "// /* x", End: 9},
		"'é日\U0001f600'":         {Kind: api.TokString, Text: "é日\U0001f600", End: 11},
		"'\x00\t\x7f\u2028'":     {Kind: api.TokString, Text: "\x00\t\x7f\u2028", End: 8},
		"'\xff'":                 {Kind: api.TokString, Text: "\ufffd", End: 3},
		"'a\xc3'":                {Kind: api.TokString, Text: "a\ufffd", End: 4},
		"'\xe4\xb8'":             {Kind: api.TokString, Text: "\ufffd\ufffd", End: 4},
		"'\xed\xa0\x80\xc0\x80'": {Kind: api.TokString, Text: "\ufffd\ufffd\ufffd\ufffd\ufffd", End: 7},
		"'\ufffd\x80'":           {Kind: api.TokString, Text: "\ufffd\ufffd", End: 6},
		"\"\xff\\n\xff\"":        {Kind: api.TokString, Text: "\ufffd\n\ufffd", End: 6},
	} {
		if x, ok := only(t, s); ok && x != want {
			t.Errorf("%q: %v, want %v", s, x, want)
		}
	}
	for _, s := range []string{
		`"`, `'`, `"a`, `'a"`, `"a'`, `"\"`, `'\'`, `"\`, `"\u{41`, "\"a\nb\"", "\"a\rb\"", "'\n'", "'\r\n'", "\"\n", "'a\r", "'\xff", "'\xe4\xb8", "\"a\\", "'''",
	} {
		at := 0
		if s == "'''" {
			at = 2
		}
		refused(t, s, at)
		refused(t, ";"+s, at+1)
	}
}

// P2.1: templates, their pieces, and what closes them.
func TestTemplates(t *testing.T) {
	for s, want := range map[string]string{
		"``":                     `whole"" end""`,
		"`a`":                    `whole"a" end""`,
		"`\"'`":                  `whole"\"'" end""`,
		"`a\nb\r\nc`":            `whole"a\nb\r\nc" end""`,
		"`\xff\xe4\xb8é`":        `whole"���é" end""`,
		"`$`":                    `whole"$" end""`,
		"`$$`":                   `whole"$$" end""`,
		"`$ {`":                  `whole"$ {" end""`,
		"`x$ \\$\\``":            "whole\"x$ $`\" end\"\"",
		"`{}`":                   `whole"{}" end""`,
		"`$}`":                   `whole"$}" end""`,
		"`\\${a}`":               `whole"${a}" end""`,
		"`$\\{`":                 `error 3 at 0`,
		"`$\\u{7b}`":             `whole"${" end""`,
		"`$${a}`":                `head"$" name"a" tail"" end""`,
		"`$$${a}$`":              `head"$$" name"a" tail"$" end""`,
		"`${a}`":                 `head"" name"a" tail"" end""`,
		"`${`":                   `head"" error 3 at 3`,
		"`${}`":                  `head"" tail"" end""`,
		"`a${b}c${ {} }`":        `head"a" name"b" middle"c" sign"{" sign"}" tail"" end""`,
		"`${a}${b}`":             `head"" name"a" middle"" name"b" tail"" end""`,
		"`${a}\n\\t${b}\r`":      `head"" name"a" middle"\n\t" name"b" tail"\r" end""`,
		"`a${`b${c}d`}e`":        `head"a" head"b" name"c" tail"d" tail"e" end""`,
		"`a${`b`}e`":             `head"a" whole"b" tail"e" end""`,
		"`${`${`${a}`}`}`":       `head"" head"" head"" name"a" tail"" tail"" tail"" end""`,
		"`${`${a}b${c}`}d${e}f`": `head"" head"" name"a" middle"b" name"c" tail"" middle"d" name"e" tail"f" end""`,
		"`${{}}`":                `head"" sign"{" sign"}" tail"" end""`,
		"`${{{}}}`":              `head"" sign"{" sign"{" sign"}" sign"}" tail"" end""`,
		"`${{`${{}}`}}`":         `head"" sign"{" head"" sign"{" sign"}" tail"" sign"}" tail"" end""`,
		"`${([}`":                `head"" sign"(" sign"[" tail"" end""`,
		"`${'}'}`":               `head"" string"}" tail"" end""`,
		"`${a}`}":                `head"" name"a" tail"" sign"}" end""`,
		"`${a}`}`b`":             `head"" name"a" tail"" sign"}" whole"b" end""`,
		"{`${a}`}":               `sign"{" head"" name"a" tail"" sign"}" end""`,
		"}":                      `sign"}" end""`,
		"}}{}}":                  `sign"}" sign"}" sign"{" sign"}" sign"}" end""`,
		"}`${a}`":                `sign"}" head"" name"a" tail"" end""`,
		"}}`${{a}}`}":            `sign"}" sign"}" head"" sign"{" name"a" sign"}" tail"" sign"}" end""`,
		"`${a}`${":               `head"" name"a" tail"" name"$" sign"{" end""`,
		"`a${b":                  `head"a" name"b" end""`,
		"`a${":                   `head"a" end""`,
		"`a${{":                  `head"a" sign"{" end""`,
		"`a${{}":                 `head"a" sign"{" sign"}" end""`,
		"`a${b}c${":              `head"a" name"b" middle"c" end""`,
		"`a${b}c":                `head"a" name"b" error 3 at 5`,
		"`a${b} \\x`":            `head"a" name"b" error 3 at 5`,
		"`a${b}":                 `head"a" name"b" error 3 at 5`,
		"`a${b}$":                `head"a" name"b" error 3 at 5`,
		"`a":                     `error 3 at 0`,
		"`":                      `error 3 at 0`,
		"`\\`":                   `error 3 at 0`,
		"`\\":                    `error 3 at 0`,
		"`$":                     `error 3 at 0`,
		"`a${`b":                 `head"a" error 3 at 4`,
		"a `${# }`":              `name"a" head"" error 3 at 5`,
	} {
		if got := said(s); got != want {
			t.Errorf("%q: %s\nwant %s", s, got, want)
		}
	}
}

// P2.1: templates as deep as the bytes allow.
func TestDeepTemplates(t *testing.T) {
	const n = 4000
	l, at, e := lex.Tokens([]byte(strings.Repeat("`${", n) + strings.Repeat("}`", n)))
	if e != api.OK || at != 0 || len(l) != 2*n+1 {
		t.Fatal(len(l), at, e)
	}
	for i, x := range l[:2*n] {
		if want := api.TokHead; i < n && x.Kind != want {
			t.Fatal(i, x)
		}
		if want := api.TokTail; i >= n && x.Kind != want {
			t.Fatal(i, x)
		}
	}
}
