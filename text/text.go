// Package text is bytes as runes and lines: see DOC.md, chapter 1.
package text

import (
	"iter"
	"slices"
	"strconv"
	"strings"

	"shuck/api"
)

// Decode is the rune that begins at a byte, how many bytes it has, and whether it is one.
func Decode(b []byte, at int) (rune, int, bool) {
	if at < 0 || at >= len(b) {
		return 0, 0, false
	}
	width, r, least := asked(b[at])
	// Held against the length, not the room: what stands behind b's end is not part of it.
	if width == 0 || width > len(b)-at {
		return api.Bad, 1, false
	}
	for _, c := range b[at+1 : at+width] {
		if c>>6 != 0b10 {
			return api.Bad, 1, false
		}
		r = r<<6 | rune(c&0x3F)
	}
	// A rune has one form: a longer one than it needs begins no rune.
	if r < least || !allowed(r) {
		return api.Bad, 1, false
	}
	return r, width, true
}

// asked is how many bytes a first byte asks for (0: it begins no rune), the digits in it, and the least rune of that many.
func asked(first byte) (width int, digits, least rune) {
	switch {
	case first < 0x80:
		return 1, rune(first), 0
	case first>>5 == 0b110:
		return 2, rune(first & 0x1F), 0x80
	case first>>4 == 0b1110:
		return 3, rune(first & 0x0F), 0x800
	case first>>3 == 0b11110:
		return 4, rune(first & 0x07), 0x10000
	}
	return 0, 0, 0
}

// allowed tells whether digits are a rune: surrogates and what lies above the last one are not.
func allowed(r rune) bool {
	return r < 0xD800 || r > 0xDFFF && r <= 0x10FFFF
}

// Runes goes through the runes, each with its place.
func Runes(b []byte) iter.Seq2[int, rune] {
	// The caller may change b before the runes are gone through, or meanwhile.
	kept := slices.Clone(b)
	return func(yield func(int, rune) bool) {
		at := 0
		for end, r := range ends(kept) {
			if !yield(at, r) {
				return
			}
			at = end
		}
	}
}

// ends goes through the runes of b itself, each with the byte behind it.
func ends(b []byte) iter.Seq2[int, rune] {
	return func(yield func(int, rune) bool) {
		for at := 0; at < len(b); {
			r, width, _ := Decode(b, at)
			at += width
			if !yield(at, r) {
				return
			}
		}
	}
}

// Place is the line and the column of a byte, from 1 on.
func Place(b []byte, at int) (line, column int) {
	at = min(max(at, 0), len(b))
	line, column = 1, 1
	// No rune but 0A itself has a byte 0A, so the runes from b's first byte on are those from each line's first one.
reach:
	for end, r := range ends(b) {
		switch {
		case end > at:
			break reach
		case r == '\n':
			line, column = line+1, 1
		default:
			column++
		}
	}
	return line, column
}

// Lines goes through the lines, each with the byte at which it begins.
func Lines(b []byte) iter.Seq2[int, string] {
	// The caller may change b before the lines are gone through, or meanwhile.
	kept := slices.Clone(b)
	return func(yield func(int, string) bool) {
		for from, to := range spans(kept) {
			if !yield(from, string(kept[from:to])) {
				return
			}
		}
	}
}

// spans goes through the lines of b itself: where each begins, and where it ends, its 0A left out.
func spans(b []byte) iter.Seq2[int, int] {
	return func(yield func(int, int) bool) {
		from := 0
		for to, c := range b {
			if c != '\n' {
				continue
			}
			if !yield(from, to) {
				return
			}
			from = to + 1
		}
		yield(from, len(b))
	}
}

// Line is the line of a number, without its end.
func Line(b []byte, n int) (string, api.Errno) {
	count := 0
	for from, to := range spans(b) {
		count++
		if count == n {
			return string(b[from:to]), api.OK
		}
	}
	return "", api.ErrNone
}

// Quote is a text as a string of the language.
func Quote(s string) string {
	var out strings.Builder
	out.WriteByte('"')
	for _, r := range ends([]byte(s)) {
		out.WriteString(quoted(r))
	}
	out.WriteByte('"')
	return out.String()
}

// quoted is what stands for a rune within quotes.
func quoted(r rune) string {
	switch {
	case r == '\\':
		return `\\`
	case r == '"':
		return `\"`
	case r == '\n':
		return `\n`
	case r == '\r':
		return `\r`
	case r == '\t':
		return `\t`
	case r < 0x20, r == 0x7F:
		return `\u{` + strconv.FormatInt(int64(r), 16) + `}`
	}
	return string(r)
}
