package kinds_test

import (
	"strconv"
	"strings"

	"shuck/api"
)

// reader reads the text of a type: what a type is, is its text, so that the tests can write shapes as texts. Of a KCase's node the text says nothing: it is one more than its enum's.
type reader struct{ left string }

// of is the shape of a text.
func of(s string) shape {
	r := &reader{s}
	x := r.whole()
	if r.left != "" {
		panic(s + ": what is " + r.left + "?")
	}
	return x
}

// all is the shapes of texts with `; ` between.
func all(s string) []shape {
	var l []shape
	for r := (&reader{s}); r.left != ""; {
		l = append(l, r.whole())
		if r.left != "" {
			r.need("; ")
		}
	}
	return l
}

func (r *reader) took(s string) bool {
	rest, ok := strings.CutPrefix(r.left, s)
	r.left = rest
	return ok
}

func (r *reader) need(s string) {
	if !r.took(s) {
		panic("no " + s + " ahead of " + r.left)
	}
}

// whole is a function, or one or several with ` | ` between.
func (r *reader) whole() shape {
	if r.atFunc() {
		return r.function()
	}
	l := []shape{r.one()}
	for r.took(" | ") {
		l = append(l, r.one())
	}
	if len(l) == 1 {
		return l[0]
	}
	return shape{kind: api.KUnion, parts: l}
}

// atFunc tells whether the parenthesis here is that of a function.
func (r *reader) atFunc() bool {
	if !strings.HasPrefix(r.left, "(") {
		return false
	}
	open := 0
	for i, c := range r.left {
		if c == '(' {
			open++
		}
		if c == ')' {
			open--
		}
		if open == 0 {
			return strings.HasPrefix(r.left[i:], ") => ")
		}
	}
	return false
}

func (r *reader) function() shape {
	f := shape{kind: api.KFunc}
	r.need("(")
	for !r.took(")") {
		f.parts = append(f.parts, r.whole())
		f.marks = append(f.marks, r.took("?"))
		r.took(", ")
	}
	r.need(" => ")
	f.parts = append(f.parts, r.whole())
	return f
}

// one is what may stand in a union, with the arrays about it.
func (r *reader) one() shape {
	var s shape
	switch {
	case r.took("("):
		s = r.whole()
		r.need(")")
	case r.took("{"):
		s = r.object()
	case strings.HasPrefix(r.left, `"`):
		quoted, _ := strconv.QuotedPrefix(r.left)
		r.need(quoted)
		plain, _ := strconv.Unquote(quoted)
		s = strIs(plain)
	case strings.ContainsAny(r.left[:1], "-0123456789"):
		s = numIs(r.number())
	default:
		s = r.named()
	}
	for r.took("[]") {
		s = array(s)
	}
	return s
}

func (r *reader) object() shape {
	o := shape{kind: api.KObject}
	for !r.took("}") {
		o.names = append(o.names, r.word())
		o.marks = append(o.marks, r.took("?"))
		r.need(": ")
		o.parts = append(o.parts, r.whole())
		r.took("; ")
	}
	return o
}

// named is a word and what stands behind it.
func (r *reader) named() shape {
	for word, kind := range map[string]int{"class ": api.KClass, "enum ": api.KCases, "namespace ": api.KSpace} {
		if r.took(word) {
			name := r.word()
			r.need("#")
			return declared(kind, r.number(), name)
		}
	}
	word := r.word()
	switch {
	case r.took("'"):
		return declared(api.KVar, r.number(), word)
	case r.took("@"):
		e := declared(api.KEnum, r.number(), word)
		if r.took(".") {
			return declared(api.KCase, e.num+1, r.word(), e)
		}
		return e
	case r.took("#"):
		return r.reference(declared(api.KRef, r.number(), word))
	}
	for i, bareWord := range bareWords {
		if word == bareWord {
			return bare(i + 1)
		}
	}
	panic("what is " + word + "?")
}

func (r *reader) reference(s shape) shape {
	if r.took("<") {
		for !r.took(">") {
			s.parts = append(s.parts, r.whole())
			r.took(", ")
		}
	}
	return s
}

func (r *reader) word() string {
	end := strings.IndexAny(r.left+" ", " #'@.:;?,|<>()[]{}")
	word := r.left[:end]
	r.left = r.left[end:]
	return word
}

func (r *reader) number() int {
	end := 0
	for end < len(r.left) && strings.Contains("-0123456789", r.left[end:end+1]) {
		end++
	}
	n, err := strconv.Atoi(r.left[:end])
	if err != nil {
		panic(err)
	}
	r.left = r.left[end:]
	return n
}
