package relate_test

import (
	"math"
	"reflect"
	"strings"
	"testing"

	"shuck/api"
	"shuck/kinds"
	"shuck/relate"
)

// world is an arena whose types are written as texts. What was there is looked at again behind each call.
type world struct {
	*testing.T
	a *kinds.Arena
}

func begin(t *testing.T) *world { return &world{t, kinds.New()} }

// both is an arena with the ten, and one that began as a zero one: its types have other numbers.
func both(t *testing.T) []*world { return []*world{begin(t), {t, &kinds.Arena{}}} }

func (w *world) find(x api.Type) int {
	w.Helper()
	n, e := w.a.Find(x)
	if e != api.OK {
		w.Fatalf("Find %v: %v", x, e)
	}
	return n
}

func (w *world) union(ids ...int) int {
	w.Helper()
	n, e := w.a.Union(ids)
	if e != api.OK {
		w.Fatalf("Union %v: %v", ids, e)
	}
	return n
}

// define defines a node by the text of an object.
func (w *world) define(node int, vars []int, object string) {
	w.Helper()
	l, e := w.a.Pieces(w.id(object))
	if e != api.OK {
		w.Fatalf("Pieces of %s: %v", object, e)
	}
	w.defineAs(node, vars, l)
}

func (w *world) defineAs(node int, vars []int, pieces []api.Piece) {
	w.Helper()
	if e := w.a.Define(node, vars, pieces); e != api.OK {
		w.Fatalf("Define %d: %v", node, e)
	}
}

// interfaces defines nodes by lines such as `1<7, 8> {a: T'7}`.
func (w *world) interfaces(lines ...string) {
	w.Helper()
	for _, line := range lines {
		head, object, _ := strings.Cut(line, " ")
		r := &reader{w, head}
		node := r.number()
		var vars []int
		if r.took("<") {
			for !r.took(">") {
				vars = append(vars, r.number())
				r.took(",")
			}
		}
		w.define(node, vars, object)
	}
}

// known is what a number tells.
type known struct {
	is   api.Type
	text string
}

func (w *world) all() []known {
	var l []known
	for id := range w.a.Len() {
		x, e := w.a.At(id)
		if e != api.OK {
			w.Fatalf("At(%d): %v", id, e)
		}
		l = append(l, known{x, w.a.Text(id)})
	}
	return l
}

// stays fails, if one of the numbers that were there tells something else now.
func (w *world) stays(what string, before []known) {
	w.Helper()
	now := w.all()
	if len(now) < len(before) {
		w.Fatalf("%s: %d types, not %d", what, len(now), len(before))
	}
	for id, k := range before {
		if now[id].text != k.text || !reflect.DeepEqual(now[id].is, k.is) {
			w.Fatalf("%s: %d is %v, it was %v", what, id, now[id], k)
		}
	}
}

// assignable is Assignable; an error must come alone, and one of a wrong input may leave nothing.
func (w *world) assignable(x, y int) (bool, api.Errno) {
	w.Helper()
	before := w.all()
	is, e := relate.Assignable(w.a, x, y)
	w.stays("Assignable", before)
	if e != api.OK && is {
		w.Errorf("Assignable(%d, %d): true with %v", x, y, e)
	}
	if e != api.OK && e != api.ErrComplex && w.a.Len() != len(before) {
		w.Errorf("Assignable(%d, %d): %v with %d types, not %d", x, y, e, w.a.Len(), len(before))
	}
	return is, e
}

// pairs is Pairs; nothing may be left where nothing is counted.
func (w *world) pairs(x, y, most int) int {
	w.Helper()
	before := w.all()
	n := relate.Pairs(w.a, x, y, most)
	w.stays("Pairs", before)
	if n == 0 && w.a.Len() != len(before) {
		w.Errorf("Pairs(%d, %d, %d): %d types, not %d", x, y, most, w.a.Len(), len(before))
	}
	return n
}

// answers fails, unless Assignable answers so, and so many pairs are reached, whatever most says.
func (w *world) answers(x, y int, want bool, err api.Errno, pairs int) {
	w.Helper()
	if is, e := w.assignable(x, y); is != want || e != err {
		w.Errorf("%s for %s: %v, %v, not %v, %v", w.short(x), w.short(y), is, e, want, err)
	}
	for _, most := range []int{math.MaxInt, pairs + 1, pairs, pairs - 1, 2, 1, 0, -1, math.MinInt} {
		if n, want := w.pairs(x, y, most), max(0, min(most, pairs)); n != want {
			w.Errorf("%s for %s: %d pairs of %d at most, not %d", w.short(x), w.short(y), n, most, want)
		}
	}
}

// short is a type's text, but not all of a long one.
func (w *world) short(id int) string {
	s := w.a.Text(id)
	if len(s) > 80 {
		return s[:80] + ".."
	}
	return s
}

// row is two types, x for y, whether x may stand there, and how many pairs are reached.
type row struct {
	x, y  string
	want  bool
	pairs int
}

// holds fails, unless the rows hold, by the slow reading, too.
func (w *world) holds(rows ...row) {
	w.Helper()
	for _, r := range rows {
		x, y := w.id(r.x), w.id(r.y)
		w.answers(x, y, r.want, api.OK, r.pairs)
		if s := w.slow(x, y, math.MaxInt); s.isLarge || len(s.reached) != r.pairs || s.greatest() != r.want {
			w.Errorf("%s for %s: the slow reading says %v, %d pairs, %v", r.x, r.y, s.greatest(), len(s.reached), s.isLarge)
		}
	}
}

// inBoth holds rows in both arenas, with the same definitions.
func inBoth(t *testing.T, interfaces []string, rows ...row) {
	t.Helper()
	for _, w := range both(t) {
		w.interfaces(interfaces...)
		w.holds(rows...)
	}
}
