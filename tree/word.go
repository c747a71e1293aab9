package tree

import (
	"strings"

	"shuck/api"
	"shuck/text"
)

// What a Text may be.

// name tells whether a text is a name.
func name(s string) bool {
	for i := range len(s) {
		if !isLetter(s[i]) && (i == 0 || !isDigit(s[i])) {
			return false
		}
	}
	return s != "" && !isReserved(s)
}

// typeNameText tells whether a text is names with dots between, or the word of a type of one value.
func typeNameText(s string) bool {
	switch s {
	case "null", "undefined", "true", "false":
		return true
	}
	for _, part := range strings.Split(s, ".") {
		if !name(part) {
			return false
		}
	}
	return true
}

// goodText tells whether a text has no bad byte. (A rune that is api.Bad itself is none.)
func goodText(s string) bool {
	b := []byte(s)
	for at := 0; at < len(b); {
		_, width, ok := text.Decode(b, at)
		if !ok {
			return false
		}
		at += width
	}
	return true
}

func unarySign(s string) bool {
	switch s {
	case "!", "-", "~", "typeof":
		return true
	}
	return false
}

func binarySign(s string) bool {
	switch s {
	case "||", "&&", "|", "^", "&", "===", "!==", "<", "<=", ">", ">=", "in",
		"<<", ">>", ">>>", "+", "-", "*", "%":
		return true
	}
	return false
}

func assignSign(s string) bool {
	switch s {
	case "=", "+=", "-=", "*=", "%=":
		return true
	}
	return false
}

func isLetter(c byte) bool {
	return 'A' <= c && c <= 'Z' || 'a' <= c && c <= 'z' || c == '_' || c == '$'
}

func isDigit(c byte) bool {
	return '0' <= c && c <= '9'
}

// isReserved has chapter 2's words once more: to have lex scan each name would cost more than all the rest of Check, and lex refuses long ones. A test holds the two against each other.
func isReserved(s string) bool {
	switch s {
	case "break", "catch", "class", "const", "constructor", "continue", "else", "enum", "export", "extends",
		"false", "finally", "for", "function", "if", "implements", "in", "interface", "let", "namespace",
		"new", "null", "of", "public", "readonly", "return", "super", "this", "throw", "true", "try", "type",
		"typeof", "undefined", "while", "as":
		return true
	}
	return false
}

// What a Num may be.

func number(n int) bool         { return n >= 0 && n <= api.MaxNumber }
func signedNumber(n int) bool   { return n >= -api.MaxNumber && n <= api.MaxNumber }
func letOrConst(n int) bool     { return n == api.Let || n == api.Const }
func noneOrConst(n int) bool    { return n == 0 || n == api.Const }
func noneOrOptional(n int) bool { return n == 0 || n == api.Optional }
func noneOrReadonly(n int) bool { return n == 0 || n == api.Readonly }
func marks(n int) bool          { return n >= 0 && n <= api.Optional+api.Public+api.Readonly }
