package relate_test

import (
	"math/rand/v2"
	"slices"
	"strings"
	"testing"

	"shuck/api"
	"shuck/kinds"
)

// maker lays types and definitions by chance, of the kinds that its words tell.
type maker struct {
	*world
	choose  func(n int) int
	words   []string // types to begin with
	isPlain bool     // without Marks
	laid    []int
	meant   []meaning
}

// meaning is what a node is defined as.
type meaning struct {
	node   int
	vars   []int
	pieces []api.Piece
}

const (
	plainWords = "unknown; never; undefined; null; number; string; true; false; 0; 1; \"a\"; T'7; U'8; class C#1; I#1; I#6; {}"
	enumWords  = "; void; E@1; E@1.A; E@1.B; F@3.A; enum E#1"
	anyWords   = "; any"
)

func making(t *testing.T, a *kinds.Arena, choose func(n int) int, words string, isPlain bool) *maker {
	m := &maker{world: &world{t, a}, choose: choose, words: strings.Split(words, "; "), isPlain: isPlain}
	for _, s := range m.words {
		m.laid = append(m.laid, m.id(s))
	}
	for range 15 + choose(15) {
		m.compose()
	}
	for node, vars := range [][]int{1: {}, 2: {7}, 3: {7, 8}, 4: {}, 5: {8}} {
		if node > 0 {
			m.mean(node, vars)
		}
	}
	return m
}

// some is a type that was laid, by half one of the last ones.
func (m *maker) some() int {
	n := len(m.laid)
	if m.choose(2) == 0 {
		n = min(n, 10)
	}
	return m.laid[len(m.laid)-1-m.choose(n)]
}

func (m *maker) someOf(n int) []int {
	var l []int
	for range n {
		l = append(l, m.some())
	}
	return l
}

func (m *maker) isMarked() bool { return !m.isPlain && m.choose(4) == 0 }

// lay is the number of a type; what is too large is another one.
func (m *maker) lay(x api.Type) int {
	m.Helper()
	n, e := m.a.Find(x)
	return m.orSome(n, e)
}

func (m *maker) join(ids ...int) int {
	m.Helper()
	n, e := m.a.Union(ids)
	return m.orSome(n, e)
}

func (m *maker) orSome(n int, e api.Errno) int {
	m.Helper()
	switch e {
	case api.OK:
		return n
	case api.ErrComplex:
		return m.some()
	}
	m.Fatal(e)
	return 0
}

// compose lays a type of some that are there.
func (m *maker) compose() {
	n := 0
	switch m.choose(6) {
	case 0:
		n = m.lay(api.Type{Kind: api.KArray, Parts: m.someOf(1)})
	case 1:
		n = m.object([]string{"a", "b", "c"}, func(string) (int, bool) { return m.some(), m.choose(2) == 0 })
	case 2:
		n = m.function(m.someOf(m.choose(3)), m.some())
	case 3:
		n = m.join(m.someOf(2 + m.choose(2))...)
	default:
		n = m.reference(1 + m.choose(6))
	}
	m.laid = append(m.laid, n)
}

// object is an object of those of the names for which there is a type.
func (m *maker) object(names []string, of func(string) (int, bool)) int {
	x := api.Type{Kind: api.KObject}
	for _, name := range names {
		if part, ok := of(name); ok {
			x.Names, x.Parts, x.Marks = append(x.Names, name), append(x.Parts, part), append(x.Marks, m.isMarked())
		}
	}
	return m.lay(x)
}

func (m *maker) function(params []int, answer int) int {
	x := api.Type{Kind: api.KFunc, Parts: append(slices.Clone(params), answer)}
	mark := false
	for range params {
		mark = mark || m.isMarked()
		x.Marks = append(x.Marks, mark)
	}
	return m.lay(x)
}

// reference is one to a node, mostly with as many types as it is defined with.
func (m *maker) reference(node int) int {
	parts := []int{1: 0, 2: 1, 3: 2, 4: 0, 5: 1, 6: 0}[node]
	if m.choose(12) == 0 {
		parts = m.choose(3)
	}
	return m.lay(api.Type{Kind: api.KRef, Num: node, Text: "I", Parts: m.someOf(parts)})
}

// mean defines a node, mostly by what leads back to nodes; and its mirror's node likewise.
func (m *maker) mean(node int, vars []int) {
	var l []api.Piece
	for _, name := range []string{"c", "a", "b"} {
		if m.choose(3) == 0 {
			continue
		}
		of := m.some()
		if m.choose(2) == 0 {
			of = m.reference(1 + m.choose(5))
		}
		l = append(l, api.Piece{Name: name, Type: of, Mark: m.isMarked()})
	}
	m.meanAs(node, vars, l)
	other := slices.Clone(l)
	for i := range other {
		other[i].Type = m.mirrored(other[i].Type)
		if m.choose(6) == 0 {
			other[i].Type, other[i].Mark = m.like(other[i].Type, 2), m.isMarked()
		}
	}
	m.meanAs(10+node, vars, other)
}

func (m *maker) meanAs(node int, vars []int, pieces []api.Piece) {
	m.defineAs(node, vars, pieces)
	m.meant = append(m.meant, meaning{node, vars, pieces})
}

// mirrored is a type with references to the mirrors' nodes in the place of those to nodes.
func (m *maker) mirrored(id int) int {
	r := &reader{m.world, strings.ReplaceAll(m.a.Text(id), "I#", "J#1")}
	return r.whole()
}

// like is a type that has something of another one: mostly one that takes it, or that it takes.
func (m *maker) like(id, deep int) int {
	x, _ := m.a.At(id)
	change := m.choose(8)
	switch {
	case change == 0 || deep == 0:
		return id
	case change == 1:
		return m.join(id, m.some())
	case change == 2 && x.Kind < api.KArray:
		n, e := m.a.Widen(id)
		return m.orSome(n, e)
	case change == 3 && m.choose(4) == 0:
		return m.some()
	}
	switch x.Kind {
	case api.KArray:
		return m.lay(api.Type{Kind: api.KArray, Parts: []int{m.like(x.Parts[0], deep-1)}})
	case api.KUnion:
		at := m.choose(len(x.Parts))
		x.Parts[at] = m.like(x.Parts[at], deep-1)
		return m.join(x.Parts[m.choose(2):]...)
	case api.KFunc:
		return m.likeFunction(x, deep)
	case api.KRef:
		if m.choose(2) == 0 && len(x.Parts) > 0 {
			at := m.choose(len(x.Parts))
			x.Parts[at] = m.like(x.Parts[at], deep-1)
			return m.lay(x)
		}
		if m.choose(2) == 0 {
			x.Num = 1 + m.choose(5)
			return m.lay(x)
		}
	}
	return m.likePieces(id, deep)
}

func (m *maker) likeFunction(x api.Type, deep int) int {
	last := len(x.Parts) - 1
	params := x.Parts[:m.choose(last+1)]
	if m.choose(2) == 0 {
		params = slices.Clone(x.Parts[:last])
	}
	for i := range params {
		params[i] = m.like(params[i], deep-1)
	}
	if m.choose(3) == 0 {
		params = append(slices.Clone(params), m.some())
	}
	return m.function(params, m.like(x.Parts[last], deep-1))
}

// likePieces is an object with some of what a type has; or that type, if it has none.
func (m *maker) likePieces(id, deep int) int {
	l, e := m.a.Pieces(id)
	if e != api.OK {
		return id
	}
	var names []string
	for _, p := range l {
		names = append(names, p.Name)
	}
	return m.object(names, func(name string) (int, bool) {
		at := slices.Index(names, name)
		return m.like(l[at].Type, deep-1), m.choose(5) > 0
	})
}

// pick is two types of which the one has mostly something of the other.
func (m *maker) pick() (int, int) {
	x := m.some()
	if m.choose(2) == 0 {
		x = m.reference(1 + m.choose(5))
	}
	y := m.some()
	switch m.choose(6) {
	case 0, 1:
		y = m.like(x, 3)
	case 2, 3:
		y = m.like(m.mirrored(x), 3)
	case 4:
		y = m.mirrored(x)
	}
	if m.choose(2) == 0 {
		return y, x
	}
	return x, y
}

// tally is how often something was seen.
type tally map[string]int

// sees fails, unless each of these was seen so often.
func (c tally) sees(t *testing.T, least int, words string) {
	t.Helper()
	for _, word := range strings.Split(words, ", ") {
		if c[word] < least {
			t.Errorf("%s: %d times", word, c[word])
		}
	}
}

// hold holds Assignable and Pairs against the slow reading.
func (m *maker) hold(x, y int, seen tally) {
	m.Helper()
	is, e := m.assignable(x, y)
	most := []int{1, 2, 3 + m.choose(10), api.MaxPairs + 1}[m.choose(4)]
	n := m.pairs(x, y, most)
	s := m.slow(x, y, api.MaxPairs+1)
	want, err := false, api.ErrComplex
	if !s.isLarge && len(s.reached) <= api.MaxPairs {
		want, err = s.greatest(), api.OK
	}
	if is != want || e != err {
		m.Fatalf("%s for %s: %v, %v, not %v, %v", m.a.Text(x), m.a.Text(y), is, e, want, err)
	}
	if n != min(most, len(s.reached)) {
		m.Fatalf("%s for %s: %d pairs of %d at most, not %d", m.a.Text(x), m.a.Text(y), n, most, len(s.reached))
	}
	seen.note(s, want, err)
}

func (c tally) note(s *reading, want bool, err api.Errno) {
	word := map[bool]string{true: "yes", false: "no"}[want]
	if err != api.OK {
		word = "complex"
	}
	c[word]++
	switch {
	case err == api.OK && len(s.reached) > 20:
		c[word+" of many"]++
	case err == api.OK && len(s.reached) > 4:
		c[word+" of several"]++
	case s.isLarge:
		c["too large"]++
	}
	if err == api.OK && want && len(s.reached) < 50 && s.hasCircle() {
		c["yes of a circle"]++
	}
}

// hasCircle tells whether a pair that is reached leads back to itself.
func (s *reading) hasCircle() bool {
	for p := range s.reached {
		from := &reading{world: s.world, most: s.most, reached: map[two]question{}}
		for _, next := range s.reached[p].of {
			from.reach(next)
		}
		if _, ok := from.reached[p]; ok {
			return true
		}
	}
	return false
}

// P9.1, P9.2, P9.5: types and definitions by chance, against the slow reading.
func TestByChance(t *testing.T) {
	seen := tally{}
	for seed := range uint64(400) {
		r := rand.New(rand.NewPCG(seed, 9))
		a := kinds.New()
		if seed%4 == 3 {
			a = &kinds.Arena{}
		}
		m := making(t, a, r.IntN, plainWords+enumWords+anyWords, seed%3 == 0)
		for range 20 {
			x, y := m.pick()
			m.hold(x, y, seen)
		}
	}
	seen.sees(t, 300, "yes, no, yes of several, no of several, yes of a circle")
	seen.sees(t, 20, "yes of many, no of many, complex, too large")
	t.Log(seen)
}

// twin is the same types and definitions, laid in another order into another arena.
func (m *maker) twin() *world {
	m.Helper()
	w := begin(m.T)
	for id := m.a.Len() - 1; id >= 0; id-- {
		w.id(m.a.Text(id))
	}
	for _, d := range m.meant {
		l := slices.Clone(d.pieces)
		slices.Reverse(l)
		for i := range l {
			l[i].Type = w.id(m.a.Text(l[i].Type))
		}
		w.defineAs(d.node, d.vars, l)
	}
	return w
}

// W2: an answer hangs on what the types are, not on their numbers.
func TestOtherNumbers(t *testing.T) {
	for seed := range uint64(60) {
		r := rand.New(rand.NewPCG(seed, 99))
		m := making(t, kinds.New(), r.IntN, plainWords+enumWords+anyWords, false)
		x, y := m.pick()
		w := m.twin()
		for range 15 {
			is, e := m.assignable(x, y)
			other, otherE := w.assignable(w.id(m.a.Text(x)), w.id(m.a.Text(y)))
			if is != other || e != otherE {
				t.Fatalf("%s for %s: %v, %v and %v, %v", m.a.Text(x), m.a.Text(y), is, e, other, otherE)
			}
			if n, other := m.pairs(x, y, 500), w.pairs(w.id(m.a.Text(x)), w.id(m.a.Text(y)), 500); n != other {
				t.Fatalf("%s for %s: %d and %d pairs", m.a.Text(x), m.a.Text(y), n, other)
			}
			x, y = m.pick()
		}
	}
}

// P9.3: every type is assignable to itself.
func TestItselfByChance(t *testing.T) {
	for seed := range uint64(20) {
		r := rand.New(rand.NewPCG(seed, 93))
		m := making(t, kinds.New(), r.IntN, plainWords+enumWords+anyWords, false)
		for id := range m.a.Len() {
			if is, e := m.assignable(id, id); !is || e != api.OK {
				t.Fatalf("%s: %v, %v", m.a.Text(id), is, e)
			}
			if n := m.pairs(id, id, 99); n != 1 {
				t.Fatalf("%s: %d pairs", m.a.Text(id), n)
			}
		}
	}
}

// answered is an answer in a word.
func (m *maker) answered(x, y int) string {
	m.Helper()
	is, e := m.assignable(x, y)
	if e != api.OK {
		return "complex"
	}
	return map[bool]string{true: "yes", false: "no"}[is]
}

// P9.3: what x is assignable to by way of y: without any, KEnum and KCase, void and Marks.
func TestByWayOf(t *testing.T) {
	seen := tally{}
	for seed := range uint64(120) {
		r := rand.New(rand.NewPCG(seed, 933))
		m := making(t, kinds.New(), r.IntN, plainWords, true)
		for range 60 {
			x, y := m.pick()
			z := m.like(y, 3)
			if m.choose(3) == 0 {
				x, z = z, x
			}
			if x == y || y == z || m.answered(x, y) != "yes" || m.answered(y, z) != "yes" {
				continue
			}
			word := m.answered(x, z)
			seen[word]++
			if word == "no" {
				t.Fatalf("%s for %s and that for %s", m.a.Text(x), m.a.Text(y), m.a.Text(z))
			}
		}
	}
	seen.sees(t, 200, "yes")
	t.Log(seen)
}

// P9.4: of unions, without any.
func TestOfUnions(t *testing.T) {
	seen := tally{}
	for seed := range uint64(120) {
		r := rand.New(rand.NewPCG(seed, 94))
		m := making(t, kinds.New(), r.IntN, plainWords+enumWords, false)
		for range 25 {
			x, z := m.pick()
			y := m.like(z, 2)
			u, e := m.a.Union([]int{x, y})
			if e != api.OK {
				continue
			}
			if word := m.answered(x, u); word == "no" {
				t.Fatalf("%s for %s", m.a.Text(x), m.a.Text(u))
			}
			whole, first, second := m.answered(u, z), m.answered(x, z), m.answered(y, z)
			if whole == "complex" || first == "complex" || second == "complex" {
				continue
			}
			seen[whole]++
			if (whole == "yes") != (first == "yes" && second == "yes") {
				t.Fatalf("%s and %s for %s: %s and %s, but %s", m.a.Text(x), m.a.Text(y), m.a.Text(z), first, second, whole)
			}
		}
	}
	seen.sees(t, 200, "yes, no")
	t.Log(seen)
}
