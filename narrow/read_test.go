package narrow_test

import (
	"strconv"
	"strings"

	"shuck/api"
)

// reader lays the type of a text: what a type is, is its text. Of a KCase's node the text says nothing: it is one more than its enum's.
type reader struct {
	*world
	left string
}

// id is the number of the type of a text, which is laid.
func (w *world) id(s string) int {
	w.Helper()
	r := &reader{w, s}
	n := r.whole()
	if r.left != "" || w.a.Text(n) != s {
		w.Fatalf("%q is read as %q, with %q left", s, w.a.Text(n), r.left)
	}
	return n
}

// ids is the numbers of several.
func (w *world) ids(l ...string) []int {
	w.Helper()
	var all []int
	for _, s := range l {
		all = append(all, w.id(s))
	}
	return all
}

func (r *reader) took(s string) bool {
	rest, ok := strings.CutPrefix(r.left, s)
	r.left = rest
	return ok
}

func (r *reader) need(s string) {
	r.Helper()
	if !r.took(s) {
		r.Fatalf("no %q ahead of %q", s, r.left)
	}
}

// list is what stands ahead of an end, with commas between, and what is marked.
func (r *reader) list(end string) (parts []int, marks []bool) {
	for !r.took(end) {
		parts = append(parts, r.whole())
		marks = append(marks, r.took("?"))
		r.took(", ")
	}
	return parts, marks
}

// whole is a function, or one or several with ` | ` between.
func (r *reader) whole() int {
	if r.atFunc() {
		r.need("(")
		parts, marks := r.list(")")
		r.need(" => ")
		return r.find(api.Type{Kind: api.KFunc, Parts: append(parts, r.whole()), Marks: marks})
	}
	l := []int{r.one()}
	for r.took(" | ") {
		l = append(l, r.one())
	}
	return r.union(l...)
}

// atFunc tells whether the parenthesis here is that of a function.
func (r *reader) atFunc() bool {
	open := 0
	for i, c := range r.left {
		switch c {
		case '(':
			open++
		case ')':
			open--
		}
		if open == 0 {
			return strings.HasPrefix(r.left[i:], ") => ")
		}
	}
	return false
}

// one is what may stand in a union, with the arrays about it.
func (r *reader) one() int {
	n := 0
	switch {
	case r.took("("):
		n = r.whole()
		r.need(")")
	case r.took("{"):
		n = r.object()
	case strings.HasPrefix(r.left, `"`):
		quoted, _ := strconv.QuotedPrefix(r.left)
		r.need(quoted)
		plain, _ := strconv.Unquote(quoted)
		n = r.find(api.Type{Kind: api.KStrIs, Text: plain})
	case strings.ContainsAny(r.left[:1], "-0123456789"):
		n = r.find(api.Type{Kind: api.KNumIs, Num: r.number()})
	default:
		n = r.named()
	}
	for r.took("[]") {
		n = r.find(api.Type{Kind: api.KArray, Parts: []int{n}})
	}
	return n
}

func (r *reader) object() int {
	x := api.Type{Kind: api.KObject}
	for !r.took("}") {
		x.Names = append(x.Names, r.word())
		x.Marks = append(x.Marks, r.took("?"))
		r.need(": ")
		x.Parts = append(x.Parts, r.whole())
		r.took("; ")
	}
	return r.find(x)
}

// named is a word and what stands behind it.
func (r *reader) named() int {
	kind := api.KRef
	for word, k := range map[string]int{"class ": api.KClass, "enum ": api.KCases, "namespace ": api.KSpace} {
		if r.took(word) {
			kind = k
		}
	}
	x := api.Type{Kind: kind, Text: r.word()}
	switch {
	case r.took("'"):
		x.Kind, x.Num = api.KVar, r.number()
	case r.took("@"):
		x.Kind, x.Num = api.KEnum, r.number()
		if n := r.find(x); r.took(".") {
			return r.find(api.Type{Kind: api.KCase, Num: x.Num + 1, Text: r.word(), Parts: []int{n}})
		}
	case r.took("#"):
		x.Num = r.number()
		if r.took("<") {
			x.Parts, _ = r.list(">")
		}
	default:
		return r.bare(x.Text)
	}
	return r.find(x)
}

// bare is one of the ten that have nothing.
func (r *reader) bare(word string) int {
	for i, s := range strings.Fields("any unknown never void undefined null number string true false") {
		if s == word {
			return r.find(api.Type{Kind: i + 1})
		}
	}
	r.Fatalf("what is %q?", word)
	return 0
}

func (r *reader) word() string { return r.until(" #'@.:;?,|<>()[]{}") }

func (r *reader) number() int {
	n, err := strconv.Atoi(r.until(" .:;?,|<>()[]{}"))
	if err != nil {
		r.Fatal(err)
	}
	return n
}

func (r *reader) until(signs string) string {
	end := strings.IndexAny(r.left+" ", signs)
	s := r.left[:end]
	r.left = r.left[end:]
	return s
}
