package lex

import (
	"bytes"
	"slices"
	"strconv"

	"shuck/api"
)

// machine is a text, how far it has been scanned, and the open brackets, the last one innermost: whether each is a template's hole.
type machine struct {
	b    []byte
	at   int
	open []bool
}

// scan hands on the tokens, or those ahead of an error and the error.
func (m *machine) scan(yield func(api.Token, api.Errno) bool) {
	count := 0
next:
	for m.at < len(m.b) {
		begin := m.at
		switch {
		case isBlank(m.b[begin]):
			m.at++
			continue next
		case m.stands("//"):
			for m.at < len(m.b) && m.b[m.at] != '\n' {
				m.at++
			}
			continue next
		case m.stands("/*"):
			// From behind both characters on: the star of /*/ closes nothing.
			for m.at += len("/*"); m.at < len(m.b); m.at++ {
				if m.stands("*/") {
					m.at += len("*/")
					continue next
				}
			}
			yield(api.Token{At: begin}, api.ErrToken)
			return
		}
		t, ok := m.token()
		if !ok {
			yield(api.Token{At: begin}, api.ErrToken)
			return
		}
		if count == api.MaxTokens {
			yield(api.Token{At: begin}, api.ErrTokens)
			return
		}
		count++
		if !yield(t, api.OK) {
			return
		}
	}
	yield(api.Token{Kind: api.TokEnd, At: len(m.b), End: len(m.b)}, api.OK)
}

// stands tells whether s stands at the machine's place.
func (m *machine) stands(s string) bool {
	return bytes.HasPrefix(m.b[m.at:], []byte(s))
}

// token takes the token that begins at the machine's place, if one does.
func (m *machine) token() (api.Token, bool) {
	switch c := m.b[m.at]; {
	case isLetter(c):
		return m.word(), true
	case isDigit(c):
		return m.number()
	case c == '"', c == '\'':
		return m.quoted(rune(c))
	case c == '`':
		return m.piece(api.TokWhole, api.TokHead)
	case c == '}' && m.inHole():
		m.closeBracket()
		return m.piece(api.TokTail, api.TokMiddle)
	}
	return m.sign()
}

// take is the token from the machine's place to a byte, and moves the machine there.
func (m *machine) take(kind int, text string, end int) api.Token {
	t := api.Token{Kind: kind, Text: text, At: m.at, End: end}
	m.at = end
	return t
}

// word takes a name or a reserved word.
func (m *machine) word() api.Token {
	end := m.at + 1
	for end < len(m.b) && (isLetter(m.b[end]) || isDigit(m.b[end])) {
		end++
	}
	text := string(m.b[m.at:end])
	if isReserved(text) {
		return m.take(api.TokWord, text, end)
	}
	return m.take(api.TokName, text, end)
}

// number takes a number, if the digits are one.
func (m *machine) number() (api.Token, bool) {
	end := m.at + 1
	for end < len(m.b) && isDigit(m.b[end]) {
		end++
	}
	text := string(m.b[m.at:end])
	// What doesn't fit is an error too: there are digits for ever greater numbers.
	n, err := strconv.ParseUint(text, 10, 64)
	if err != nil || n > api.MaxNumber || text[0] == '0' && len(text) > 1 {
		return api.Token{}, false
	}
	if end < len(m.b) && isLetter(m.b[end]) {
		return api.Token{}, false
	}
	return m.take(api.TokNumber, text, end), true
}

// sign takes the longest sign that stands at the machine's place, and keeps count of the brackets.
func (m *machine) sign() (api.Token, bool) {
	text := longestSign(m.b[m.at:])
	switch text {
	case "":
		return api.Token{}, false
	case "{":
		m.open = append(m.open, false)
	case "}":
		m.closeBracket()
	}
	return m.take(api.TokSign, text, m.at+len(text)), true
}

// longestSign is the longest sign with which b begins; empty, if there is none.
func longestSign(b []byte) string {
	signs := [...][]string{
		1: {
			"{", "}", "(", ")", "[", "]", ".", ",", ";", ":", "?", "=", "+", "-", "*", "%",
			"!", "~", "<", ">", "&", "|", "^",
		},
		2: {"=>", "+=", "-=", "*=", "%=", "<=", ">=", "<<", ">>", "&&", "||"},
		3: {"===", "!==", ">>>"},
	}
	for length := min(len(signs)-1, len(b)); length > 0; length-- {
		if text := string(b[:length]); slices.Contains(signs[length], text) {
			return text
		}
	}
	return ""
}

// inHole tells whether the last open bracket is a template's hole.
func (m *machine) inHole() bool {
	return len(m.open) > 0 && m.open[len(m.open)-1]
}

// closeBracket closes the last open bracket, if there is one.
func (m *machine) closeBracket() {
	if len(m.open) > 0 {
		m.open = m.open[:len(m.open)-1]
	}
}

func isBlank(c byte) bool {
	return c == '\t' || c == '\n' || c == '\r' || c == ' '
}

func isLetter(c byte) bool {
	return 'A' <= c && c <= 'Z' || 'a' <= c && c <= 'z' || c == '_' || c == '$'
}

func isDigit(c byte) bool {
	return '0' <= c && c <= '9'
}

func isReserved(s string) bool {
	switch s {
	case "break", "catch", "class", "const", "constructor", "continue", "else", "enum", "export", "extends",
		"false", "finally", "for", "function", "if", "implements", "in", "interface", "let", "namespace",
		"new", "null", "of", "public", "readonly", "return", "super", "this", "throw", "true", "try", "type",
		"typeof", "undefined", "while", "as":
		return true
	}
	return false
}
