package narrow_test

import (
	"fmt"
	"reflect"
	"strings"
	"testing"

	"shuck/api"
	"shuck/kinds"
	"shuck/narrow"
)

// world is an arena whose types are written as texts. What was there is looked at again behind each call.
type world struct {
	*testing.T
	a *kinds.Arena
}

func begin(t *testing.T) *world { return &world{t, kinds.New()} }

// both is an arena with the ten, and one that began as a zero one: its types have other numbers.
func both(t *testing.T) []*world { return []*world{begin(t), {t, &kinds.Arena{}}} }

func (w *world) find(x api.Type) int {
	w.Helper()
	n, e := w.a.Find(x)
	if e != api.OK {
		w.Fatalf("Find %v: %v", x, e)
	}
	return n
}

func (w *world) union(ids ...int) int {
	w.Helper()
	n, e := w.a.Union(ids)
	if e != api.OK {
		w.Fatalf("Union %v: %v", ids, e)
	}
	return n
}

// ref is the number of a reference.
func (w *world) ref(node int, name string, parts ...int) int {
	w.Helper()
	return w.find(api.Type{Kind: api.KRef, Num: node, Text: name, Parts: parts})
}

// has is an object with one member k.
func (w *world) has(k int) int {
	w.Helper()
	return w.find(api.Type{Kind: api.KObject, Names: []string{"k"}, Parts: []int{k}, Marks: []bool{false}})
}

func (w *world) at(id int) api.Type {
	x, e := w.a.At(id)
	if e != api.OK {
		w.Fatalf("At(%d): %v", id, e)
	}
	return x
}

func (w *world) defineAs(node int, vars []int, pieces []api.Piece) {
	w.Helper()
	if e := w.a.Define(node, vars, pieces); e != api.OK {
		w.Fatalf("Define %d: %v", node, e)
	}
}

// interfaces defines nodes by lines such as `1<7, 8> {a: T'7}`.
func (w *world) interfaces(lines ...string) {
	w.Helper()
	for _, line := range lines {
		head, object, _ := strings.Cut(line, " ")
		r := &reader{w, head}
		node := r.number()
		var vars []int
		if r.took("<") {
			for !r.took(">") {
				vars = append(vars, r.number())
				r.took(",")
			}
		}
		l, e := w.a.Pieces(w.id(object))
		if e != api.OK {
			w.Fatalf("Pieces of %s: %v", object, e)
		}
		w.defineAs(node, vars, l)
	}
}

// test is a test of words: `typeof number`, `is 1`, `truthy`, `has k`, `k is 1`.
func (w *world) test(words string) api.Test {
	w.Helper()
	if words == "truthy" {
		return api.Test{Kind: api.TestTruth}
	}
	if text, ok := strings.CutPrefix(words, "typeof "); ok {
		return api.Test{Kind: api.TestKind, Text: text}
	}
	if text, ok := strings.CutPrefix(words, "has "); ok {
		return api.Test{Kind: api.TestHas, Text: text}
	}
	if text, ok := strings.CutPrefix(words, "is "); ok {
		return api.Test{Kind: api.TestIs, Type: w.id(text)}
	}
	name, text, ok := strings.Cut(words, " is ")
	if !ok {
		w.Fatalf("what is %q?", words)
	}
	return api.Test{Kind: api.TestField, Text: name, Type: w.id(text)}
}

// known is what a number tells.
type known struct {
	is   api.Type
	text string
}

func (w *world) all() []known {
	var l []known
	for id := range w.a.Len() {
		l = append(l, known{w.at(id), w.a.Text(id)})
	}
	return l
}

// stays fails, if one of the numbers that were there tells something else now.
func (w *world) stays(what string, before []known) {
	w.Helper()
	now := w.all()
	if len(now) < len(before) {
		w.Fatalf("%s: %d types, not %d", what, len(now), len(before))
	}
	for id, k := range before {
		if now[id].text != k.text || !reflect.DeepEqual(now[id].is, k.is) {
			w.Fatalf("%s: %d is %v, it was %v", what, id, now[id], k)
		}
	}
}

// comesAlone fails, if something comes with an error, if what is answered is no type, or if a wrong input leaves something.
func (w *world) comesAlone(what string, before []known, n int, e api.Errno) {
	w.Helper()
	w.stays(what, before)
	switch {
	case e != api.OK && n != 0:
		w.Errorf("%s: %d with %v", what, n, e)
	case e == api.OK && (n < 0 || n >= w.a.Len()):
		w.Fatalf("%s: %d is no type", what, n)
	case e != api.OK && e != api.ErrComplex && w.a.Len() != len(before):
		w.Errorf("%s: %v with %d types, not %d", what, e, w.a.Len(), len(before))
	}
}

func (w *world) keep(id int, t api.Test, yes bool) (int, api.Errno) {
	w.Helper()
	before := w.all()
	n, e := narrow.Keep(w.a, id, t, yes)
	w.comesAlone(fmt.Sprintf("Keep(%d, %v, %v)", id, t, yes), before, n, e)
	return n, e
}

func (w *world) assigned(declared, value int) (int, api.Errno) {
	w.Helper()
	before := w.all()
	n, e := narrow.Assigned(w.a, declared, value)
	w.comesAlone(fmt.Sprintf("Assigned(%d, %d)", declared, value), before, n, e)
	return n, e
}

// short is a type's text, but not all of a long one.
func (w *world) short(id int) string {
	s := w.a.Text(id)
	if len(s) > 80 {
		return s[:80] + ".."
	}
	return s
}

// leaves fails, unless Keep answers that type, or that error.
func (w *world) leaves(id int, t api.Test, yes bool, want int, err api.Errno) {
	w.Helper()
	if n, e := w.keep(id, t, yes); n != want || e != err {
		w.Errorf("%s, %v, %v: %s, %v, not %s, %v", w.short(id), t, yes, w.short(n), e, w.short(want), err)
	}
}

// fails fails, unless Keep answers that error, to yes and to no.
func (w *world) fails(id int, t api.Test, err api.Errno) {
	w.Helper()
	w.leaves(id, t, true, 0, err)
	w.leaves(id, t, false, 0, err)
}

// row is a type, a test in words, and what it leaves with yes and with no.
type row struct{ of, test, yes, no string }

// holds fails, unless the rows hold, by the slow reading, too.
func (w *world) holds(rows ...row) {
	w.Helper()
	for _, r := range rows {
		id, t := w.id(r.of), w.test(r.test)
		for yes, text := range map[bool]string{true: r.yes, false: r.no} {
			n, e := w.keep(id, t, yes)
			if s := w.a.Text(n); s != text || e != api.OK {
				w.Errorf("%s, %s, %v: %s, %v, not %s", r.of, r.test, yes, s, e, text)
			}
			if slow, e := w.slowKeep(id, t, yes); w.a.Text(slow) != text || e != api.OK {
				w.Errorf("%s, %s, %v: the slow reading says %s, %v", r.of, r.test, yes, w.a.Text(slow), e)
			}
		}
	}
}

// inBoth holds rows in both arenas, with the same definitions.
func inBoth(t *testing.T, interfaces []string, rows ...row) {
	t.Helper()
	for _, w := range both(t) {
		w.interfaces(interfaces...)
		w.holds(rows...)
	}
}

// given is a declared type, that of a value, and what is left of the first one.
type given struct{ declared, value, want string }

// assigns fails, unless Assigned answers so, and so does the slow reading.
func (w *world) assigns(l ...given) {
	w.Helper()
	for _, g := range l {
		declared, value := w.id(g.declared), w.id(g.value)
		if n, e := w.assigned(declared, value); w.a.Text(n) != g.want || e != api.OK {
			w.Errorf("%s to %s: %s, %v, not %s", g.value, g.declared, w.a.Text(n), e, g.want)
		}
		if n, e := w.slowAssigned(declared, value); w.a.Text(n) != g.want || e != api.OK {
			w.Errorf("%s to %s: the slow reading says %s, %v", g.value, g.declared, w.a.Text(n), e)
		}
	}
}
