package kinds_test

import (
	"math/rand/v2"
	"regexp"
	"slices"
	"strings"
	"testing"
	"unicode/utf8"

	"shuck/api"
	"shuck/kinds"
)

// player calls an arena by chance, and holds each answer against the shapes.
type player struct {
	*probe
	choose  func(n int) int
	defined map[int]meaning
}

// meaning is what a node is defined as: its vars, and the pieces of which the Names are looked at later.
type meaning struct {
	vars   []int
	pieces []api.Piece
}

func play(t *testing.T, a *kinds.Arena, choose func(n int) int) *player {
	return &player{probing(t, a), choose, map[int]meaning{}}
}

func (g *player) pick(words string) string {
	l := strings.Fields(words)
	return l[g.choose(len(l))]
}

// anyID is mostly the number of a small type, seldom of a large one, and hardly ever none.
func (g *player) anyID() int {
	switch n := g.choose(60); {
	case n == 0:
		return -1 - g.choose(3)
	case n == 1:
		return len(g.known) + g.choose(3)
	case len(g.known) == 0:
		return 0
	}
	id := g.choose(len(g.known))
	for range 6 {
		if g.known[id].size < 12 {
			break
		}
		id = g.choose(len(g.known))
	}
	return id
}

func (g *player) anyIDs(most int) []int {
	var l []int
	for range g.choose(most + 1) {
		l = append(l, g.anyID())
	}
	return l
}

// areThere tells whether all of these are numbers.
func (g *player) areThere(ids ...int) bool {
	return !slices.ContainsFunc(ids, func(id int) bool { return id < 0 || id >= len(g.known) })
}

func (g *player) shapes(ids []int) []shape {
	var l []shape
	for _, id := range ids {
		l = append(l, g.known[id].shape)
	}
	return l
}

// anyType is a type that may be, or nearly.
func (g *player) anyType() api.Type {
	x := api.Type{Kind: g.choose(api.KSpace+3) - 1}
	for range 3 {
		if x.Kind <= api.KFalse || x.Kind == api.KUnion {
			x.Kind = api.KNumIs + g.choose(api.KSpace-api.KNumIs+1)
		}
	}
	switch x.Kind {
	case api.KNumIs:
		x.Num = g.choose(4) - 1
	case api.KStrIs:
		x.Text = g.pick(`a b " é`)
	case api.KArray:
		x.Parts = []int{g.anyID()}
	case api.KObject:
		for _, name := range []string{"a", "b", "c"} {
			if g.choose(2) == 0 {
				x.Names, x.Parts, x.Marks = append(x.Names, name), append(x.Parts, g.anyID()), append(x.Marks, g.choose(3) == 0)
			}
		}
	case api.KFunc:
		x.Parts = append(g.anyIDs(2), g.anyID())
		x.Marks = make([]bool, len(x.Parts)-1)
		for i := g.choose(len(x.Parts)); i < len(x.Marks); i++ {
			x.Marks[i] = true
		}
	case api.KUnion:
		x.Parts = []int{6, 7}
	case api.KRef, api.KVar, api.KEnum, api.KCase, api.KClass, api.KCases, api.KSpace:
		x.Num, x.Text = g.choose(3), g.pick("A B")
		if x.Kind == api.KRef {
			x.Parts = g.anyIDs(2)
		}
		if x.Kind == api.KCase {
			x.Parts = []int{g.enum()}
		}
	}
	if g.choose(12) == 0 {
		g.spoilOne(&x)
	}
	return x
}

// enum is an enum's number, if there is one.
func (g *player) enum() int {
	from := g.choose(len(g.known) + 1)
	for id := range g.known {
		if id >= from && g.known[id].shape.kind == api.KEnum {
			return id
		}
	}
	return g.anyID()
}

func (g *player) spoilOne(x *api.Type) {
	switch g.choose(8) {
	case 0:
		x.Num = g.choose(3) - 1
	case 1:
		x.Text = g.pick("a 1 class \xff")
	case 2:
		x.Parts = append(x.Parts, g.anyID())
	case 3:
		x.Names = append(x.Names, g.pick("a d class"))
	case 4:
		x.Marks = append(x.Marks, g.choose(2) == 0)
	case 5:
		slices.Reverse(x.Marks)
	case 6:
		slices.Reverse(x.Names)
	case 7:
		x.Kind = g.choose(30) - 3
	}
}

var namePattern = regexp.MustCompile(`^[A-Za-z_$][A-Za-z_$0-9]*$`)

func isName(s string) bool {
	return namePattern.MatchString(s) && !slices.Contains(strings.Fields(reservedWords), s)
}

// mayBe is what the chapter says of a type that may be, word by word.
func (g *player) mayBe(x api.Type) bool {
	if x.Kind < api.KAny || x.Kind > api.KSpace || x.Kind == api.KUnion || !g.areThere(x.Parts...) {
		return false
	}
	isOf := func(kinds ...int) bool { return slices.Contains(kinds, x.Kind) }
	isDeclared := x.Kind >= api.KRef
	switch {
	case !isOf(api.KNumIs) && !isDeclared && x.Num != 0,
		!isOf(api.KStrIs) && !isDeclared && x.Text != "",
		!isOf(api.KArray, api.KObject, api.KFunc, api.KRef, api.KCase) && len(x.Parts) > 0,
		!isOf(api.KObject) && len(x.Names) > 0,
		!isOf(api.KObject, api.KFunc) && len(x.Marks) > 0,
		isDeclared && (x.Num < 0 || !isName(x.Text)),
		isOf(api.KNumIs) && max(x.Num, -x.Num) > api.MaxNumber,
		isOf(api.KStrIs) && !utf8.ValidString(x.Text),
		isOf(api.KArray, api.KCase) && len(x.Parts) != 1,
		isOf(api.KCase) && g.known[x.Parts[0]].shape.kind != api.KEnum,
		isOf(api.KFunc) && (len(x.Parts) == 0 || len(x.Marks) != len(x.Parts)-1),
		isOf(api.KObject) && (len(x.Names) != len(x.Parts) || len(x.Names) != len(x.Marks)):
		return false
	}
	for i := 1; i < len(x.Marks) && isOf(api.KFunc); i++ {
		if x.Marks[i-1] && !x.Marks[i] {
			return false
		}
	}
	for i, name := range x.Names {
		if !isName(name) || i > 0 && x.Names[i-1] >= name {
			return false
		}
	}
	return true
}

func (g *player) playFind() {
	x := g.anyType()
	may := g.mayBe(x)
	n, e := g.find(x)
	if !may {
		g.refused("Find", n, e, api.ErrArg)
		return
	}
	s := shape{kind: x.Kind, num: x.Num, text: x.Text, names: x.Names, marks: x.Marks, parts: g.shapes(x.Parts)}
	g.is("Find", n, e, s)
}

// playUnion looks at P8.8, too: in any order, with one twice, with the union of some in their place.
func (g *player) playUnion() {
	ids := g.anyIDs(5)
	there := g.areThere(ids...)
	n, e := g.union(ids...)
	if !there {
		g.refused("Union", n, e, api.ErrNone)
		return
	}
	g.is("Union", n, e, union(g.shapes(ids)...))
	again := append([]int{}, ids...)
	for i := range again {
		j := g.choose(i + 1)
		again[i], again[j] = again[j], again[i]
	}
	if len(again) > 0 {
		again = append(again, again[g.choose(len(again))])
	}
	some := g.choose(len(again) + 1)
	if u, e := g.union(again[:some]...); e == api.OK {
		again = append(again[some:], u)
	}
	if m, e2 := g.union(again...); m != n || e2 != e {
		g.Errorf("Union of %v: %d, %v; of %v: %d, %v", ids, n, e, again, m, e2)
	}
}

func (g *player) playSubst() {
	id, types := g.anyID(), g.anyIDs(3)
	var vars []int
	for range types {
		vars = append(vars, g.choose(3))
	}
	if g.choose(15) == 0 {
		vars = append(vars, 0)
	}
	there := g.areThere(append(types, id)...)
	n, e := g.subst(id, vars, types)
	switch {
	case !there:
		g.refused("Subst", n, e, api.ErrNone)
	case len(vars) != len(types):
		g.refused("Subst", n, e, api.ErrArg)
	default:
		g.is("Subst", n, e, g.known[id].shape.subst(vars, g.shapes(types)))
	}
}

// playItself is P8.8: Subst with a KVar for itself.
func (g *player) playItself() {
	id := g.anyID()
	if !g.areThere(id) {
		return
	}
	var vars, types []int
	for v, k := range g.known {
		if k.shape.kind == api.KVar && !slices.Contains(vars, k.shape.num) {
			vars, types = append(vars, k.shape.num), append(types, v)
		}
	}
	// Another KVar of the same Num is another type: it would not be itself.
	for _, k := range g.known {
		if k.shape.kind == api.KVar && !slices.ContainsFunc(types, func(v int) bool { return g.known[v].text == k.text }) {
			return
		}
	}
	if n, e := g.subst(id, vars, types); n != id || e != api.OK {
		g.Errorf("Subst of %s with itself: %s, %v", g.known[id].text, g.a.Text(n), e)
	}
}

func (g *player) playWiden() {
	id := g.anyID()
	there := g.areThere(id)
	n, e := g.widen(id)
	if !there {
		g.refused("Widen", n, e, api.ErrNone)
		return
	}
	g.is("Widen", n, e, g.known[id].shape.widen())
	if e == api.OK {
		if again, e := g.widen(n); again != n || e != api.OK {
			g.Errorf("Widen of %s: %s, %v", g.a.Text(n), g.a.Text(again), e)
		}
	}
}

func (g *player) playDefine() {
	node := g.choose(5) - 1
	var vars []int
	for range g.choose(3) {
		vars = append(vars, g.choose(3))
	}
	var pieces []api.Piece
	for range g.choose(4) {
		pieces = append(pieces, api.Piece{Name: g.pick("c b a a1 a b c d _ $ A class"), Type: g.anyID(), Mark: g.choose(2) == 0})
	}
	named, there := node >= 0, true
	for _, piece := range pieces {
		named = named && isName(piece.Name)
		there = there && g.areThere(piece.Type)
	}
	e := g.define(node, vars, pieces)
	want := api.OK
	switch {
	case !named:
		want = api.ErrArg
	case !there:
		want = api.ErrNone
	default:
		g.defined[node] = meaning{slices.Clone(vars), slices.Clone(pieces)}
	}
	if e != want {
		g.Errorf("Define(%d, %v, %v): %v, not %v", node, vars, pieces, e, want)
	}
}

// wantedPieces is P8.7, word by word; and whether there are any.
func (g *player) wantedPieces(id int) (shape, bool) {
	s := g.known[id].shape
	m, ok := g.defined[s.num]
	switch {
	case s.kind == api.KObject:
		return s, true
	case s.kind != api.KRef || !ok || len(m.vars) != len(s.parts):
		return shape{}, false
	}
	o := shape{kind: api.KObject}
	l := slices.Clone(m.pieces)
	slices.SortStableFunc(l, func(x, y api.Piece) int { return strings.Compare(x.Name, y.Name) })
	for _, piece := range l {
		if slices.Contains(o.names, piece.Name) {
			continue
		}
		o.names, o.marks = append(o.names, piece.Name), append(o.marks, piece.Mark)
		o.parts = append(o.parts, g.known[piece.Type].shape.subst(m.vars, s.parts))
	}
	return o, true
}

func (g *player) playPieces() {
	id := g.anyID()
	if id >= 0 && id < len(g.known) {
		g.playPiecesOf(id)
	} else if l, e := g.pieces(id); e != api.ErrNone {
		g.Errorf("Pieces(%d): %v, %v", id, l, e)
	}
}

func (g *player) playPiecesOf(id int) {
	want, ok := g.wantedPieces(id)
	isLarge := slices.ContainsFunc(want.parts, func(s shape) bool { return s.size() > api.MaxSize })
	l, e := g.pieces(id)
	switch {
	case !ok:
		if e != api.ErrNone {
			g.Errorf("Pieces of %s: %v, %v", g.known[id].text, l, e)
		}
	case isLarge:
		if e != api.ErrComplex {
			g.Errorf("Pieces of %s: %v, %v", g.known[id].text, l, e)
		}
	default:
		if words := g.wordsOf(l); e != api.OK || words != want.words() {
			g.Errorf("Pieces of %s: %s, %v, not %s", g.known[id].text, words, e, want.words())
		}
	}
}

// step plays a call.
func (g *player) step() {
	switch g.choose(12) {
	default:
		g.playFind()
	case 5, 6:
		g.playUnion()
	case 7:
		g.playSubst()
	case 8:
		g.playItself()
	case 9:
		g.playWiden()
	case 10:
		g.playDefine()
	case 11:
		g.playPieces()
	}
	if g.Failed() {
		g.FailNow()
	}
}

// end looks at every reference, whatever was defined and refused meanwhile.
func (g *player) end() {
	for id := range len(g.known) {
		if g.known[id].shape.kind == api.KRef {
			g.playPiecesOf(id)
		}
	}
}

// P8.1 to P8.10: scripts of calls by chance, in an arena with the ten and in one that began as a zero one.
func TestByChance(t *testing.T) {
	for seed := range uint64(300) {
		r := rand.New(rand.NewPCG(seed, 8))
		a := kinds.New()
		if seed%4 == 3 {
			a = &kinds.Arena{}
		}
		g := play(t, a, r.IntN)
		for range 150 {
			g.step()
		}
		g.end()
	}
}

// P8.2, P8.4, P8.5: types that grow until they are too large.
func TestGrowing(t *testing.T) {
	refused := map[string]int{}
	for seed := range uint64(12) {
		r := rand.New(rand.NewPCG(seed, 88))
		g := play(t, kinds.New(), r.IntN)
		g.lay(all("any; A'0; A'1; true; 1; A'0[] | A'1; {a: A'0 | A'1[]; b: true}")...)
		for range 100 {
			what, e := g.grow()
			if e == api.ErrComplex {
				refused[what]++
			}
		}
	}
	for _, what := range []string{"Find", "Union", "Subst", "Widen"} {
		if refused[what] == 0 {
			t.Errorf("nothing was too large for %s", what)
		}
	}
}

// grow makes something of types of which some were laid of late, and tells by which call.
func (g *player) grow() (string, api.Errno) {
	part := func() int {
		if g.choose(3) == 0 {
			return g.choose(min(len(g.known), 20))
		}
		return len(g.known) - 1 - g.choose(min(len(g.known), 6))
	}
	parts := []int{part(), part(), part()}
	switch g.choose(5) {
	case 0:
		n, e := g.union(parts...)
		g.is("Union", n, e, union(g.shapes(parts)...))
		return "Union", e
	case 1, 2:
		if g.known[parts[0]].size*(g.known[parts[1]].size+g.known[parts[2]].size) > 40000 {
			return "", api.OK
		}
		n, e := g.subst(parts[0], []int{0, 1}, parts[1:])
		g.is("Subst", n, e, g.known[parts[0]].shape.subst([]int{0, 1}, g.shapes(parts[1:])))
		return "Subst", e
	case 3:
		n, e := g.widen(parts[0])
		g.is("Widen", n, e, g.known[parts[0]].shape.widen())
		return "Widen", e
	}
	s := shape{kind: api.KObject, names: []string{"a", "b", "c"}, marks: make([]bool, 3), parts: g.shapes(parts)}
	n, e := g.find(api.Type{Kind: api.KObject, Names: s.names, Parts: parts, Marks: s.marks})
	g.is("Find", n, e, s)
	return "Find", e
}
