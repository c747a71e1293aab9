package narrow_test

import (
	"math/rand/v2"
	"slices"
	"strings"
	"testing"

	"shuck/api"
	"shuck/kinds"
	"shuck/relate"
)

// maker lays types and definitions by chance.
type maker struct {
	*world
	choose func(n int) int
	laid   []int
	meant  []meaning
	seen   map[string]int
}

// meaning is what a node is defined as.
type meaning struct {
	node   int
	vars   []int
	pieces []api.Piece
}

const (
	valueWords = `0; 1; 2; ""; "a"; "b"; true; false; undefined; null; E@1.A; E@1.B; F@3.A`
	otherWords = "any; unknown; never; void; number; string; T'7; U'8; E@1; F@3; class C#1; enum E#1; namespace N#1; {}; I#1; I#9"
)

func making(t *testing.T, a *kinds.Arena, choose func(n int) int) *maker {
	m := &maker{world: &world{t, a}, choose: choose, seen: map[string]int{}}
	for _, s := range strings.Split(valueWords+"; "+otherWords, "; ") {
		m.laid = append(m.laid, m.id(s))
	}
	for range 10 + choose(20) {
		m.compose()
	}
	for node, vars := range [][]int{1: {}, 2: {7}, 3: {7, 8}, 4: {}} {
		if node > 0 {
			m.mean(node, vars)
		}
	}
	// Pieces that can't be made of what is large.
	m.meanAs(5, []int{7}, []api.Piece{{Name: "k", Type: m.value()}, {Name: "b", Type: m.id("{a: T'7; b: T'7}")}})
	m.laid = append(m.laid, m.ref(5, "I", m.some()), m.ref(5, "I", m.id("null"+strings.Repeat("[]", 248+choose(4)))))
	for range 10 {
		m.compose()
	}
	return m
}

// value is a type of one value.
func (m *maker) value() int { return m.laid[m.choose(len(strings.Split(valueWords, "; ")))] }

// some is a type that was laid: by half one of the last ones, by some part one of one value.
func (m *maker) some() int {
	switch m.choose(4) {
	case 0, 1:
		return m.laid[len(m.laid)-1-m.choose(10)]
	case 2:
		return m.value()
	}
	return m.laid[m.choose(len(m.laid))]
}

func (m *maker) someOf(n int) []int {
	var l []int
	for range n {
		l = append(l, m.some())
	}
	return l
}

// orSome is what was made; what is too large is another one.
func (m *maker) orSome(n int, e api.Errno) int {
	m.Helper()
	switch e {
	case api.OK:
		return n
	case api.ErrComplex:
		return m.value()
	}
	m.Fatal(e)
	return 0
}

func (m *maker) lay(x api.Type) int {
	m.Helper()
	n, e := m.a.Find(x)
	return m.orSome(n, e)
}

func (m *maker) join(ids ...int) int {
	m.Helper()
	n, e := m.a.Union(ids)
	return m.orSome(n, e)
}

// compose lays a type of some that are there.
func (m *maker) compose() {
	n := 0
	switch m.choose(8) {
	case 0:
		n = m.lay(api.Type{Kind: api.KArray, Parts: m.someOf(1)})
	case 1:
		n = m.lay(api.Type{Kind: api.KFunc, Parts: m.someOf(2), Marks: []bool{m.choose(2) == 0}})
	case 2, 3:
		n = m.object()
	case 4:
		n = m.reference()
	default:
		n = m.join(m.someOf(2 + m.choose(4))...)
	}
	m.laid = append(m.laid, n)
}

func (m *maker) object() int {
	x := api.Type{Kind: api.KObject}
	for _, name := range []string{"a", "k"} {
		if m.choose(4) > 0 {
			x.Names, x.Parts, x.Marks = append(x.Names, name), append(x.Parts, m.some()), append(x.Marks, m.choose(4) == 0)
		}
	}
	return m.lay(x)
}

// reference is one to a node, mostly with as many types as it is defined with.
func (m *maker) reference() int {
	node := 1 + m.choose(4)
	parts := []int{1: 0, 2: 1, 3: 2, 4: 0}[node]
	if m.choose(8) == 0 {
		parts = m.choose(3)
	}
	return m.lay(api.Type{Kind: api.KRef, Num: node, Text: "I", Parts: m.someOf(parts)})
}

func (m *maker) mean(node int, vars []int) {
	var l []api.Piece
	for _, name := range []string{"k", "b", "a", "k"} {
		if m.choose(3) > 0 {
			l = append(l, api.Piece{Name: name, Type: []int{m.some(), m.value(), m.reference(), m.id("T'7")}[m.choose(4)], Mark: m.choose(4) == 0})
		}
	}
	m.meanAs(node, vars, l)
}

func (m *maker) meanAs(node int, vars []int, pieces []api.Piece) {
	m.defineAs(node, vars, pieces)
	m.meant = append(m.meant, meaning{node, vars, pieces})
}

// pickID is mostly a union, and hardly ever no number.
func (m *maker) pickID() int {
	switch m.choose(40) {
	case 0:
		return -1 - m.choose(3)
	case 1:
		return m.a.Len() + m.choose(3)
	}
	switch m.choose(6) {
	case 0:
		return m.some()
	case 1:
		return m.laid[m.choose(len(m.laid))]
	case 2:
		wide := []string{"unknown", "number", "string", "E@1"}[m.choose(4)]
		return m.join(m.id(wide), m.value(), m.value())
	}
	return m.join(m.someOf(2 + m.choose(6))...)
}

// pickTest is a test, hardly ever one that is none.
func (m *maker) pickTest() api.Test {
	t := api.Test{Kind: 1 + m.choose(5), Type: m.value()}
	switch t.Kind {
	case api.TestKind:
		t.Text = strings.Split("number string boolean undefined function object bigint ", " ")[m.choose(8)]
	case api.TestHas, api.TestField:
		t.Text = strings.Split("k k k a b z ", " ")[m.choose(7)]
	}
	if m.choose(30) == 0 {
		t.Type = m.choose(m.a.Len()+4) - 2
	}
	if m.choose(60) == 0 {
		t.Kind = m.choose(9) - 1
	}
	return t
}

// pickFor is a test, by half of a member that a type has by one of its parts, and of the one value that it may be.
func (m *maker) pickFor(id int) api.Test {
	if id < 0 || id >= m.a.Len() || m.choose(2) == 0 {
		return m.pickTest()
	}
	parts := m.slowParts(id)
	pieces, e := m.a.Pieces(parts[m.choose(len(parts))])
	if e != api.OK || len(pieces) == 0 {
		return m.pickTest()
	}
	piece := pieces[m.choose(len(pieces))]
	values := m.slowParts(piece.Type)
	value := values[m.choose(len(values))]
	if !m.slowOneValue(value) {
		value = m.value()
	}
	return api.Test{Kind: api.TestField, Text: piece.Name, Type: value}
}

// holdKeep holds Keep against the slow reading, with yes and with no, and looks at what both make.
func (m *maker) holdKeep(id int, t api.Test) {
	m.Helper()
	var made [2]int
	var errs [2]api.Errno
	for i, yes := range []bool{false, true} {
		n, e := m.keep(id, t, yes)
		want, err := m.slowKeep(id, t, yes)
		if n != want || e != err {
			m.Fatalf("%s, %v (%s), %v: %s, %v, not %s, %v", m.a.Text(id), t, m.a.Text(t.Type), yes, m.a.Text(n), e, m.a.Text(want), err)
		}
		made[i], errs[i] = n, e
	}
	if errs != [2]api.Errno{} {
		m.seen[errs[1].Error()]++
		return
	}
	m.note(id, t, made[1])
	m.follows(id, t, made[1], made[0])
}

// note counts what was said, and what came in the place of a part.
func (m *maker) note(id int, t api.Test, yes int) {
	kind := strings.Fields("none typeof is truthy has field")[t.Kind]
	for _, p := range m.slowParts(id) {
		says, _ := m.slowSays(p, t)
		m.seen[kind+" "+says]++
		if says == "either" && m.slowPlace(p, t) != p {
			m.seen[kind+" in its place"]++
		}
	}
	if m.kindWord(yes) == "never" {
		m.seen["nothing left"]++
	}
}

// follows is P10.3: together both have every part, or what stands in its place; and each part is assignable to the type.
func (m *maker) follows(id int, t api.Test, yes, no int) {
	m.Helper()
	both := append(slices.Clone(m.slowParts(yes)), m.slowParts(no)...)
	for _, p := range m.slowParts(id) {
		if m.kindWord(p) != "never" && !slices.Contains(both, p) && !slices.Contains(both, m.slowPlace(p, t)) {
			m.Fatalf("%s, %v: %s and %s, without %s", m.a.Text(id), t, m.a.Text(yes), m.a.Text(no), m.a.Text(p))
		}
	}
	if u, e := m.a.Union([]int{yes, no}); u != id || e != api.OK {
		m.Fatalf("%s, %v: %s and %s are %s, %v", m.a.Text(id), t, m.a.Text(yes), m.a.Text(no), m.a.Text(u), e)
	}
	for _, p := range both {
		is, e := relate.Assignable(m.a, p, id)
		if e == api.OK && !is && !strings.Contains(m.a.Text(id), "any") {
			m.Fatalf("%s, %v: %s", m.a.Text(id), t, m.a.Text(p))
		}
		m.seen["assignable, "+e.Error()]++
	}
}

// holdAssigned holds Assigned against the slow reading.
func (m *maker) holdAssigned(declared, value int) {
	m.Helper()
	n, e := m.assigned(declared, value)
	want, err := m.slowAssigned(declared, value)
	if n != want || e != err {
		m.Fatalf("%s to %s: %s, %v, not %s, %v", m.a.Text(value), m.a.Text(declared), m.a.Text(n), e, m.a.Text(want), err)
	}
	switch {
	case e != api.OK:
		m.seen["assigned, "+e.Error()]++
	case m.kindWord(declared) != "KUnion":
		m.seen["assigned to no union"]++
	case n != declared:
		m.seen["assigned to some"]++
	default:
		m.seen["assigned to all or none"]++
	}
}

// pickValue has mostly something of what is declared.
func (m *maker) pickValue(declared int) int {
	if m.choose(3) == 0 || declared < 0 || declared >= m.a.Len() {
		return m.pickID()
	}
	parts := m.slowParts(declared)
	return m.join(parts[m.choose(len(parts))], m.some())
}

func (m *maker) hold() {
	m.Helper()
	id := m.pickID()
	m.holdKeep(id, m.pickFor(id))
	declared := m.pickID()
	m.holdAssigned(declared, m.pickValue(declared))
}

// P10.1 to P10.4: types, definitions and tests by chance, against the slow reading.
func TestByChance(t *testing.T) {
	seen := map[string]int{}
	for seed := range uint64(200) {
		a := kinds.New()
		if seed%4 == 3 {
			a = &kinds.Arena{}
		}
		m := making(t, a, rand.New(rand.NewPCG(seed, 10)).IntN)
		m.seen = seen
		for range 25 {
			m.hold()
		}
	}
	for _, kind := range []string{"typeof ", "is ", "truthy ", "has ", "field "} {
		for _, says := range []string{"yes", "no", "either"} {
			if seen[kind+says] < 50 {
				t.Errorf("%s: %d times", kind+says, seen[kind+says])
			}
		}
	}
	for word, least := range map[string]int{
		"typeof in its place": 20, "is in its place": 100, "nothing left": 200, "assignable, " + api.OK.Error(): 1000,
		api.ErrArg.Error(): 50, api.ErrNone.Error(): 50, api.ErrComplex.Error(): 50,
		"assigned to no union": 200, "assigned to some": 200, "assigned to all or none": 200,
		"assigned, " + api.ErrNone.Error(): 50, "assigned, " + api.ErrComplex.Error(): 20,
	} {
		if seen[word] < least {
			t.Errorf("%s: %d times", word, seen[word])
		}
	}
	t.Log(seen)
}

// twin is the same types and definitions, laid in another order into another arena.
func (m *maker) twin() *world {
	m.Helper()
	w := begin(m.T)
	for id := m.a.Len() - 1; id >= 0; id-- {
		w.id(m.a.Text(id))
	}
	for _, d := range m.meant {
		l := slices.Clone(d.pieces)
		for i := range l {
			l[i].Type = w.id(m.a.Text(l[i].Type))
		}
		w.defineAs(d.node, d.vars, l)
	}
	return w
}

// W2: an answer hangs on what the types are, not on their numbers.
func TestOtherNumbers(t *testing.T) {
	for seed := range uint64(30) {
		m := making(t, kinds.New(), rand.New(rand.NewPCG(seed, 1010)).IntN)
		w := m.twin()
		for range 20 {
			id, value, test := m.join(m.someOf(4)...), m.some(), m.pickTest()
			test.Type = m.value()
			otherID, otherValue, otherTest := w.id(m.a.Text(id)), w.id(m.a.Text(value)), test
			otherTest.Type = w.id(m.a.Text(test.Type))
			for _, yes := range []bool{true, false} {
				n, e := m.keep(id, test, yes)
				other, otherE := w.keep(otherID, otherTest, yes)
				if e != otherE || e == api.OK && m.a.Text(n) != w.a.Text(other) {
					t.Fatalf("%s, %v, %v: %s, %v and %s, %v", m.a.Text(id), test, yes, m.a.Text(n), e, w.a.Text(other), otherE)
				}
			}
			n, e := m.assigned(id, value)
			other, otherE := w.assigned(otherID, otherValue)
			if e != otherE || e == api.OK && m.a.Text(n) != w.a.Text(other) {
				t.Fatalf("%s to %s: %s, %v and %s, %v", m.a.Text(value), m.a.Text(id), m.a.Text(n), e, w.a.Text(other), otherE)
			}
		}
	}
}
