package lex

import (
	"bytes"
	"strconv"
	"strings"
	"unicode/utf8"

	"shuck/api"
	"shuck/text"
)

// quoted takes a string that begins with a mark.
func (m *machine) quoted(mark rune) (api.Token, bool) {
	var said strings.Builder
	at := m.at + 1
within:
	for {
		r, width, _ := text.Decode(m.b, at)
		switch {
		case width == 0, r == '\n', r == '\r':
			return api.Token{}, false
		case r == mark:
			break within
		case r == '\\':
			r, width = escape(m.b[at:])
			if width == 0 {
				return api.Token{}, false
			}
		}
		said.WriteRune(r)
		at += width
	}
	return m.take(api.TokString, said.String(), at+1), true
}

// piece takes a template's piece: of the kind whole, if it is the last one, of the kind holed, if a hole follows.
func (m *machine) piece(whole, holed int) (api.Token, bool) {
	var said strings.Builder
	at := m.at + 1
within:
	for {
		r, width, _ := text.Decode(m.b, at)
		switch {
		case width == 0:
			return api.Token{}, false
		case r == '`':
			break within
		case r == '$' && at+1 < len(m.b) && m.b[at+1] == '{':
			m.open = append(m.open, true)
			return m.take(holed, said.String(), at+len("${")), true
		case r == '\\':
			r, width = escape(m.b[at:])
			if width == 0 {
				return api.Token{}, false
			}
		}
		said.WriteRune(r)
		at += width
	}
	return m.take(whole, said.String(), at+1), true
}

// escape is the rune that the escape at the beginning of b says, and its width; 0: it is none.
func escape(b []byte) (rune, int) {
	if len(b) < 2 {
		return 0, 0
	}
	switch c := b[1]; c {
	case 'n':
		return '\n', 2
	case 'r':
		return '\r', 2
	case 't':
		return '\t', 2
	case '0':
		return 0, 2
	case '\\', '"', '\'', '$', '`':
		return rune(c), 2
	}
	return numbered(b)
}

// numbered is escape for those that say a rune by its number.
func numbered(b []byte) (rune, int) {
	const begin, most = `\u{`, 6
	if !bytes.HasPrefix(b, []byte(begin)) {
		return 0, 0
	}
	digits := bytes.IndexByte(b, '}') - len(begin)
	if digits < 1 || digits > most {
		return 0, 0
	}
	width := len(begin) + digits + 1
	n, err := strconv.ParseUint(string(b[len(begin):width-1]), 16, 32)
	if err != nil || !utf8.ValidRune(rune(n)) {
		return 0, 0
	}
	return rune(n), width
}
