package lex_test

import (
	"regexp"
	"slices"
	"strconv"
	"strings"
	"testing"
	"unicode/utf8"

	"shuck/api"
	"shuck/lex"
)

// scanned is all that Scan hands on, an error with its token as the last pair.
type scanned struct {
	t api.Token
	e api.Errno
}

func scan(s string) []scanned {
	var all []scanned
	for t, e := range lex.Scan([]byte(s)) {
		all = append(all, scanned{t, e})
	}
	return all
}

// said is tokens in short: kind and text in quotes; an error as its number and its byte.
func said(s string) string {
	var out []string
	for _, x := range scan(s) {
		if x.e != api.OK {
			out = append(out, "error "+strconv.Itoa(int(x.e))+" at "+strconv.Itoa(x.t.At))
			continue
		}
		out = append(out, kindName(x.t.Kind)+strconv.Quote(x.t.Text))
	}
	return strings.Join(out, " ")
}

func kindName(kind int) string {
	return [...]string{"?", "name", "word", "number", "string", "whole", "head", "middle", "tail", "sign", "end"}[kind]
}

// only is the one token that a text has ahead of its end.
func only(t *testing.T, s string) (api.Token, bool) {
	t.Helper()
	l, _, e := lex.Tokens([]byte(s))
	if e != api.OK || len(l) != 2 {
		t.Errorf("%q: %v, error %d: not one token", s, l, e)
		return api.Token{}, false
	}
	return l[0], true
}

// refused fails, unless a text is an ErrToken of that byte.
func refused(t *testing.T, s string, at int) {
	t.Helper()
	if l, got, e := lex.Tokens([]byte(s)); len(l) != 0 || got != at || e != api.ErrToken {
		t.Errorf("%q: %v, byte %d, error %d; want ErrToken at %d", s, l, got, e, at)
	}
}

// slow is the words of the chapter once more, by regular expressions: what Scan is held against.
type slow struct {
	ahead, word, number, quoted, whole, head, sign *regexp.Regexp
}

func newSlow() slow {
	const escape = "\\\\(?:[nrt0\\\\\"'$`]|u\\{[0-9a-fA-F]{1,6}\\})"
	const template = "(?:" + escape + "|[^\\\\`$]|\\$)*?"
	return slow{
		ahead:  regexp.MustCompile("^(?:[\\t\\n\\r ]|//[^\\n]*|(?s:/\\*.*?\\*/))*"),
		word:   regexp.MustCompile("^[A-Za-z_$][A-Za-z_$0-9]*"),
		number: regexp.MustCompile("^[0-9]+"),
		quoted: regexp.MustCompile("^(?:\"(?:" + escape + "|[^\\\\\"\\n\\r])*\"|'(?:" + escape + "|[^\\\\'\\n\\r])*')"),
		whole:  regexp.MustCompile("^[`}](" + template + ")`"),
		head:   regexp.MustCompile("^[`}](" + template + ")\\$\\{"),
		sign:   regexp.MustCompile("^(?:===|!==|>>>|=>|\\+=|-=|\\*=|%=|<=|>=|<<|>>|&&|\\|\\||[-{}()\\[\\].,;:?=+*%!~<>&|^])"),
	}
}

// all is the tokens of s by the words.
func (w slow) all(s string) []scanned {
	if len(s) > api.MaxBytes {
		return []scanned{{e: api.ErrBytes}}
	}
	var out []scanned
	var holes []bool
	for at := 0; ; {
		at += len(w.ahead.FindString(s[at:]))
		if at == len(s) {
			return append(out, scanned{api.Token{Kind: api.TokEnd, At: at, End: at}, api.OK})
		}
		kind, bytes := w.one(s[at:], len(holes) > 0 && holes[len(holes)-1])
		if kind == 0 {
			return append(out, scanned{api.Token{At: at}, api.ErrToken})
		}
		if len(out) == api.MaxTokens {
			return append(out, scanned{api.Token{At: at}, api.ErrTokens})
		}
		if bytes[0] == '}' && len(holes) > 0 {
			holes = holes[:len(holes)-1]
		}
		text := bytes
		switch kind {
		case api.TokString, api.TokWhole, api.TokTail:
			text = unescape(bytes[1 : len(bytes)-1])
		case api.TokHead, api.TokMiddle:
			text = unescape(bytes[1 : len(bytes)-2])
			holes = append(holes, true)
		case api.TokSign:
			if bytes == "{" {
				holes = append(holes, false)
			}
		}
		out = append(out, scanned{api.Token{Kind: kind, Text: text, At: at, End: at + len(bytes)}, api.OK})
		at += len(bytes)
	}
}

// one is the kind and the bytes of the token with which s begins; 0, if it begins none.
func (w slow) one(s string, hole bool) (int, string) {
	if x := w.word.FindString(s); x != "" {
		if slices.Contains(strings.Split(reserved, ", "), x) {
			return api.TokWord, x
		}
		return api.TokName, x
	}
	if x := w.number.FindString(s); x != "" {
		n, err := strconv.Atoi(x)
		if err != nil || n > 9007199254740991 || strconv.Itoa(n) != x || w.word.MatchString(s[len(x):]) {
			return 0, ""
		}
		return api.TokNumber, x
	}
	if s[0] == '`' || s[0] == '}' && hole {
		whole, head := w.whole.FindStringSubmatch(s), w.head.FindStringSubmatch(s)
		kinds := [2]int{api.TokWhole, api.TokHead}
		if s[0] == '}' {
			kinds = [2]int{api.TokTail, api.TokMiddle}
		}
		switch {
		case whole == nil && head == nil:
			return 0, ""
		case head == nil || whole != nil && len(whole[0]) < len(head[0]):
			return runesOnly(kinds[0], whole[0])
		}
		return runesOnly(kinds[1], head[0])
	}
	if x := w.quoted.FindString(s); x != "" {
		return runesOnly(api.TokString, x)
	}
	if x := w.sign.FindString(s); x != "" {
		return api.TokSign, x
	}
	return 0, ""
}

// runesOnly is a kind and bytes, if the numbered escapes within are runes.
func runesOnly(kind int, bytes string) (int, string) {
	for _, x := range escapes.FindAllString(bytes, -1) {
		if n, numbered := strings.CutPrefix(x, `\u{`); numbered {
			r, err := strconv.ParseInt(strings.TrimSuffix(n, "}"), 16, 64)
			if err != nil || !utf8.ValidRune(rune(r)) {
				return 0, ""
			}
		}
	}
	return kind, bytes
}

var escapes = regexp.MustCompile(`(?s)\\(?:u\{[^}]*\}|.)`)

// unescape is what pieces say.
func unescape(s string) string {
	s = escapes.ReplaceAllStringFunc(s, func(x string) string {
		if n, numbered := strings.CutPrefix(x, `\u{`); numbered {
			r, _ := strconv.ParseInt(strings.TrimSuffix(n, "}"), 16, 64)
			return string(rune(r))
		}
		switch x[1:] {
		case "n":
			return "\n"
		case "r":
			return "\r"
		case "t":
			return "\t"
		case "0":
			return "\x00"
		}
		return x[1:]
	})
	return string([]rune(s))
}

const reserved = "break, catch, class, const, constructor, continue, else, enum, export, extends, false, finally, for, function, if, implements, in, interface, let, namespace, new, null, of, public, readonly, return, super, this, throw, true, try, type, typeof, undefined, while, as"
