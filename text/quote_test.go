package text_test

import (
	"strconv"
	"strings"
	"testing"

	"shuck/text"
)

// P1.5: what is named, what is told by number, what stands for itself, bad bytes.
func TestQuote(t *testing.T) {
	for _, x := range []struct{ s, want string }{
		{"", `""`},
		{"abc", `"abc"`},
		{"\\", `"\\"`},
		{"\"", `"\""`},
		{"'`$/", "\"'`$/\""},
		{"\n\r\t", `"\n\r\t"`},
		{"\x00", `"\u{0}"`},
		{"\x01\x08\x0b\x0c\x0f", `"\u{1}\u{8}\u{b}\u{c}\u{f}"`},
		{"\x10\x1a\x1f", `"\u{10}\u{1a}\u{1f}"`},
		{" ~", `" ~"`},
		{"\x7f", `"\u{7f}"`},
		{"\u0080é\u2028\ufeff日\U0001f600\U0010ffff", "\"\u0080é\u2028\ufeff日\U0001f600\U0010ffff\""},
		{"\xff", "\"\xef\xbf\xbd\""},
		{"\xef\xbf\xbd", "\"\xef\xbf\xbd\""},
		{"a\xe4\xb8\"\xc0\x80", "\"a\ufffd\ufffd\\\"\ufffd\ufffd\""},
		{"\xed\xa0\x80", "\"\ufffd\ufffd\ufffd\""},
		{"a\"\n\x00é\xff", "\"a\\\"\\n\\u{0}é\xef\xbf\xbd\""},
	} {
		if got := text.Quote(x.s); got != x.want {
			t.Errorf("Quote(% x): %s, want %s", x.s, got, x.want)
		}
	}
}

// P1.5: every rune below 80 alone.
func TestQuoteEachSmallRune(t *testing.T) {
	named := map[rune]string{'\\': `\\`, '"': `\"`, '\n': `\n`, '\r': `\r`, '\t': `\t`}
	for r := rune(0); r < 0x80; r++ {
		want := string(r)
		if s, ok := named[r]; ok {
			want = s
		} else if r < 0x20 || r == 0x7F {
			want = `\u{` + strconv.FormatInt(int64(r), 16) + `}`
		}
		if got := text.Quote(string(r)); got != `"`+want+`"` {
			t.Errorf("Quote of %x: %s", r, got)
		}
	}
}

// P1.5: a long text, piece by piece.
func TestQuoteLong(t *testing.T) {
	const n = 20000
	if got, want := text.Quote(strings.Repeat("é\n\xff", n)), `"`+strings.Repeat("é\\n\ufffd", n)+`"`; got != want {
		t.Errorf("Quote of a long text: %d bytes, want %d", len(got), len(want))
	}
}
