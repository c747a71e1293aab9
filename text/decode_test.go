package text_test

import (
	"math"
	"testing"
	"unicode/utf8"

	"shuck/api"
	"shuck/text"
)

type decoded struct {
	r    rune
	n    int
	good bool
}

func decode(b []byte, at int) decoded {
	r, n, good := text.Decode(b, at)
	return decoded{r, n, good}
}

var (
	nothing = decoded{}
	bad     = decoded{api.Bad, 1, false}
)

// P1.1: a place outside the text has nothing.
func TestDecodeOutside(t *testing.T) {
	for _, s := range []string{"", "a", "aé", "\xff"} {
		for _, at := range []int{math.MinInt, -2, -1, len(s), len(s) + 1, math.MaxInt} {
			if got := decode([]byte(s), at); got != nothing {
				t.Errorf("Decode(%q, %d): %v", s, at, got)
			}
		}
	}
	if got := decode(nil, 0); got != nothing {
		t.Errorf("Decode(nil, 0): %v", got)
	}
}

// P1.1: the first and the last rune of each width, and those beside the surrogates.
func TestDecodeGood(t *testing.T) {
	for _, x := range []struct {
		s    string
		want decoded
	}{
		{"\x00", decoded{0, 1, true}},
		{"a", decoded{'a', 1, true}},
		{"\x7f", decoded{0x7F, 1, true}},
		{"\xc2\x80", decoded{0x80, 2, true}},
		{"\xc3\xa9", decoded{'é', 2, true}},
		{"\xdf\xbf", decoded{0x7FF, 2, true}},
		{"\xe0\xa0\x80", decoded{0x800, 3, true}},
		{"\xed\x9f\xbf", decoded{0xD7FF, 3, true}},
		{"\xee\x80\x80", decoded{0xE000, 3, true}},
		{"\xef\xbf\xbd", decoded{api.Bad, 3, true}},
		{"\xef\xbf\xbf", decoded{0xFFFF, 3, true}},
		{"\xf0\x90\x80\x80", decoded{0x10000, 4, true}},
		{"\xf4\x8f\xbf\xbf", decoded{0x10FFFF, 4, true}},
	} {
		if got := decode([]byte(x.s), 0); got != x.want {
			t.Errorf("Decode(% x, 0): %v, want %v", x.s, got, x.want)
		}
		if got := decode([]byte("é"+x.s+"\x80"), 2); got != x.want {
			t.Errorf("Decode(% x within a text): %v, want %v", x.s, got, x.want)
		}
	}
}

// P1.1: bytes at which no rune begins.
func TestDecodeBad(t *testing.T) {
	for _, s := range []string{
		"\x80", "\xbf", "\x80a", // a later byte first
		"\xc0\x80", "\xc1\xbf", "\xe0\x80\x80", "\xe0\x9f\xbf", "\xf0\x80\x80\x80", "\xf0\x8f\xbf\xbf", // longer than need be
		"\xed\xa0\x80", "\xed\xbf\xbf", // surrogates
		"\xf4\x90\x80\x80", "\xf5\x80\x80\x80", "\xf7\xbf\xbf\xbf", // above the last rune
		"\xf8\x88\x80\x80\x80", "\xfc\x84\x80\x80\x80\x80", "\xfe", "\xff", // no first byte
		"\xc3", "\xe4", "\xe4\xb8", "\xf0", "\xf0\x9f", "\xf0\x9f\x98", // cut at the end
		"\xc3a", "\xc3\xc3", "\xe4a\x80", "\xe4\xb8a", "\xe4\xb8\xff", "\xf0a\x98\x80", "\xf0\x9fa\x80", "\xf0\x9f\x98a", "\xf0\x9f\x98\xc0", // a later byte that is none
	} {
		if got := decode([]byte(s), 0); got != bad {
			t.Errorf("Decode(% x, 0): %v", s, got)
		}
	}
	for at := 1; at < 4; at++ {
		if got := decode([]byte("\U0001f600"), at); got != bad {
			t.Errorf("Decode within a rune, at %d: %v", at, got)
		}
	}
}

// P1.1: what stands in the room behind the end is not part of the text.
func TestDecodeSpareRoom(t *testing.T) {
	whole := []byte("\U0001f600")
	for n := 1; n < 4; n++ {
		if got := decode(whole[:n], 0); got != bad {
			t.Errorf("Decode of the first %d bytes: %v", n, got)
		}
	}
}

// P1.1: every rune there is comes back from its bytes.
func TestDecodeEveryRune(t *testing.T) {
	for r := rune(0); r <= 0x10FFFF; r++ {
		if r == 0xD800 {
			r = 0xE000
		}
		b := []byte(string(r))
		if got := decode(b, 0); got != (decoded{r, len(b), true}) {
			t.Fatalf("Decode of %x: %v", r, got)
		}
	}
}

// edgeBytes are the bytes at which what is asked of a byte changes, and some between.
func edgeBytes() []byte {
	return []byte{
		0x00, 0x0A, 'a', 0x7F, 0x80, 0x81, 0x8F, 0x90, 0x9F, 0xA0, 0xBF, 0xC0, 0xC1, 0xC2, 0xDF,
		0xE0, 0xE1, 0xEC, 0xED, 0xEE, 0xEF, 0xF0, 0xF1, 0xF3, 0xF4, 0xF5, 0xF7, 0xF8, 0xFB, 0xFC, 0xFE, 0xFF,
	}
}

// P1.1: held against the library over all texts of two bytes and, of edge bytes, all of up to four.
func TestDecodeAsLibrary(t *testing.T) {
	same := func(b []byte) {
		r, n := utf8.DecodeRune(b)
		want := decoded{r, n, r != utf8.RuneError || n > 1}
		if got := decode(b, 0); got != want {
			t.Fatalf("Decode(% x, 0): %v, want %v", b, got, want)
		}
	}
	for i := range 1 << 16 {
		same([]byte{byte(i >> 8), byte(i)})
	}
	for i := range 256 {
		same([]byte{byte(i)})
	}
	edges := edgeBytes()
	for _, a := range edges {
		for _, b := range edges {
			for _, c := range edges {
				same([]byte{a, b, c})
				for _, d := range edges {
					same([]byte{a, b, c, d})
				}
			}
		}
	}
}
