package text_test

import (
	"bytes"
	"fmt"
	"math"
	"slices"
	"strings"
	"testing"

	"shuck/api"
	"shuck/text"
)

type line struct {
	at int
	s  string
}

// String tells bad bytes by number: a terminal could not show them.
func (l line) String() string { return fmt.Sprintf("%d %q", l.at, l.s) }

func lines(b []byte) []line {
	var all []line
	for at, s := range text.Lines(b) {
		all = append(all, line{at, s})
	}
	return all
}

// P1.3: ordinary bytes, bytes within a rune, places outside the text.
func TestPlace(t *testing.T) {
	for _, x := range []struct {
		s                string
		at, line, column int
	}{
		{"", 0, 1, 1}, {"", -1, 1, 1}, {"", 1, 1, 1},
		{"a\néb", 0, 1, 1}, {"a\néb", 1, 1, 2}, {"a\néb", 2, 2, 1}, {"a\néb", 3, 2, 1}, {"a\néb", 4, 2, 2}, {"a\néb", 5, 2, 3},
		{"a\néb", 99, 2, 3}, {"a\néb", math.MaxInt, 2, 3}, {"a\néb", -1, 1, 1}, {"a\néb", math.MinInt, 1, 1},
		{"a\n", 2, 2, 1}, {"a\n", 3, 2, 1}, {"\n\n", 1, 2, 1}, {"\n\n", 2, 3, 1},
		{"x\U0001f600y", 1, 1, 2}, {"x\U0001f600y", 2, 1, 2}, {"x\U0001f600y", 3, 1, 2}, {"x\U0001f600y", 4, 1, 2}, {"x\U0001f600y", 5, 1, 3},
		{"\xff\xffa", 1, 1, 2}, {"\xff\xffa", 2, 1, 3}, {"\xff\xffa", 3, 1, 4},
		{"\xe4\xb8\nz", 1, 1, 2}, {"\xe4\xb8\nz", 2, 1, 3}, {"\xe4\xb8\nz", 3, 2, 1}, {"\xe4\xb8\nz", 4, 2, 2},
		{"a\xe4\xb8", 2, 1, 3}, {"a\xe4\xb8", 3, 1, 4},
		{"a\rb", 2, 1, 3}, {"a\tb", 2, 1, 3},
	} {
		if line, column := text.Place([]byte(x.s), x.at); line != x.line || column != x.column {
			t.Errorf("Place(%q, %d): %d, %d, want %d, %d", x.s, x.at, line, column, x.line, x.column)
		}
	}
	if line, column := text.Place(nil, 7); line != 1 || column != 1 {
		t.Errorf("Place(nil, 7): %d, %d", line, column)
	}
}

// placeByWords is Place as the chapter words it, by the language's own runes.
func placeByWords(b []byte, at int) (int, int) {
	at = min(max(at, 0), len(b))
	begin := bytes.LastIndexByte(b[:at], '\n') + 1
	column, rest := 1, string(b[begin:])
	for from := range rest {
		if from > 0 && begin+from <= at {
			column++
		}
	}
	if at == len(b) && rest != "" {
		column++
	}
	return 1 + bytes.Count(b[:at], []byte{'\n'}), column
}

func samePlaces(t *testing.T, b []byte) {
	t.Helper()
	for at := -2; at < len(b)+3; at++ {
		line, column := text.Place(b, at)
		if l, c := placeByWords(b, at); line != l || column != c {
			t.Fatalf("Place(% x, %d): %d, %d, want %d, %d", b, at, line, column, l, c)
		}
	}
}

// P1.3: all places of all samples.
func TestPlaceByWords(t *testing.T) {
	for _, s := range samples() {
		samePlaces(t, []byte(s))
	}
}

// P1.4: the lines, the last one too, as they are.
func TestLines(t *testing.T) {
	for _, x := range []struct {
		s    string
		want []line
	}{
		{"", []line{{0, ""}}},
		{"a", []line{{0, "a"}}},
		{"\n", []line{{0, ""}, {1, ""}}},
		{"a\n", []line{{0, "a"}, {2, ""}}},
		{"\na", []line{{0, ""}, {1, "a"}}},
		{"a\n\nbc", []line{{0, "a"}, {2, ""}, {3, "bc"}}},
		{"a\r\né\r", []line{{0, "a\r"}, {3, "é\r"}}},
		{"\xff\n\xc3\n\xa9\x00", []line{{0, "\xff"}, {2, "\xc3"}, {4, "\xa9\x00"}}},
	} {
		if got := lines([]byte(x.s)); !slices.Equal(got, x.want) {
			t.Errorf("Lines(%q): %v, want %v", x.s, got, x.want)
		}
	}
	if got := lines(nil); !slices.Equal(got, []line{{0, ""}}) {
		t.Errorf("Lines(nil): %v", got)
	}
}

// P1.4: each line by its number, and the numbers that there are none of.
func TestLine(t *testing.T) {
	for _, s := range samples() {
		b := []byte(s)
		all := lines(b)
		for i, x := range all {
			if got, e := text.Line(b, i+1); got != x.s || e != api.OK {
				t.Errorf("Line(%q, %d): %q, %v", s, i+1, got, e)
			}
		}
		for _, n := range []int{math.MinInt, -1, 0, len(all) + 1, len(all) + 2, math.MaxInt} {
			if got, e := text.Line(b, n); got != "" || e != api.ErrNone {
				t.Errorf("Line(%q, %d): %q, %v", s, n, got, e)
			}
		}
	}
	if got, e := text.Line(nil, 1); got != "" || e != api.OK {
		t.Errorf("Line(nil, 1): %q, %v", got, e)
	}
}

func sameLines(t *testing.T, b []byte) {
	t.Helper()
	var texts []string
	for at, s := range text.Lines(b) {
		texts = append(texts, s)
		if line, column := text.Place(b, at); line != len(texts) || column != 1 {
			t.Fatalf("Place of line %d of % x: %d, %d", len(texts), b, line, column)
		}
		if strings.Contains(s, "\n") {
			t.Fatalf("line %d of % x has an end in it: %q", len(texts), b, s)
		}
		if !bytes.HasPrefix(b[at:], []byte(s)) {
			t.Fatalf("line %d of % x does not stand at %d: %q", len(texts), b, at, s)
		}
	}
	if joined := strings.Join(texts, "\n"); joined != string(b) {
		t.Fatalf("lines of % x: % x", b, joined)
	}
	if want := bytes.Count(b, []byte{'\n'}) + 1; len(texts) != want {
		t.Fatalf("% x has %d lines, want %d", b, len(texts), want)
	}
}

// P1.7: the lines with 0A between are the text; each begins in its line, at column 1.
func TestLinesLaidTogether(t *testing.T) {
	for _, s := range samples() {
		sameLines(t, []byte(s))
	}
}

// P1.4: a loop may be left anywhere, in the last line too; then nothing more is handed on.
func TestLinesLeft(t *testing.T) {
	b := []byte("a\n\nbc\n")
	all := lines(b)
	for leave := 1; leave <= len(all); leave++ {
		var got []line
		text.Lines(b)(func(at int, s string) bool {
			got = append(got, line{at, s})
			return len(got) < leave
		})
		if !slices.Equal(got, all[:leave]) {
			t.Errorf("left behind %d: %v", leave, got)
		}
	}
}

// P1.4: one iterator, gone through twice, after being left, and inside itself.
func TestLinesAgain(t *testing.T) {
	b := []byte("a\n\nbc")
	all := lines(b)
	it := text.Lines(b)
	for range it {
		break
	}
	for range 2 {
		var outer []line
		for at, s := range it {
			outer = append(outer, line{at, s})
			var inner []line
			for at, s := range it {
				inner = append(inner, line{at, s})
			}
			if !slices.Equal(inner, all) {
				t.Errorf("inside: %v", inner)
			}
		}
		if !slices.Equal(outer, all) {
			t.Errorf("outside: %v", outer)
		}
	}
}
