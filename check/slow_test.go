package check_test

import (
	"cmp"
	"maps"
	"slices"
	"strings"

	"shuck/api"
	"shuck/bind"
	"shuck/fold"
	"shuck/kinds"
	"shuck/narrow"
	"shuck/relate"
)

// slow reads chapter 12 word by word: it keeps nothing but what was said of nodes, looks each name up anew from where it stands, and makes each type again whenever it is asked for.
type slow struct {
	x     api.Tree
	l     []api.Node
	up    []int
	a     *kinds.Arena
	uses  map[int]int
	bad   map[int]string // what offends, and why
	types map[int]int    // of expressions
}

// known is the facts of a place; nothing changes them.
type known map[int]int

// spot is the facts of a place, and whether it is reached.
type spot struct {
	f       known
	reached bool
}

type beyond struct{}

// slowly is what the chapter says of a program that chapter 7 takes, and why nodes offend.
func slowly(x api.Tree) (c api.Checked, why map[int]string) {
	uses, n, e := bind.Program(x)
	if e != api.OK {
		return api.Checked{Err: e, Node: n}, nil
	}
	s := &slow{x, x.Nodes, make([]int, len(x.Nodes)), kinds.New(), map[int]int{}, map[int]string{}, map[int]int{}}
	for n, node := range s.l {
		for _, kid := range node.Kids {
			s.up[kid] = n
		}
	}
	for _, u := range uses {
		s.uses[u.At] = u.Decl
	}
	defer func() {
		thrown := recover()
		if _, ok := thrown.(beyond); ok {
			c, why = api.Checked{Err: api.ErrComplex}, nil
		} else if thrown != nil {
			panic(thrown)
		}
	}()
	s.heads()
	s.stmts(0, spot{known{}, true})
	c = api.Checked{Err: api.OK, Node: -1, Types: make([]string, len(s.l))}
	for n := range s.l {
		if id, ok := s.types[n]; ok {
			c.Types[n] = s.a.Text(id)
		}
		if s.bad[n] != "" && c.Node < 0 {
			c.Err, c.Node = api.ErrType, n
		}
	}
	return c, s.bad
}

func (s *slow) offend(n int, why string) {
	if s.bad[n] == "" {
		s.bad[n] = why
	}
}

func (s *slow) must(id int, e api.Errno) int {
	if e == api.ErrComplex {
		panic(beyond{})
	}
	if e != api.OK {
		panic(e)
	}
	return id
}

func (s *slow) find(t api.Type) int     { return s.must(s.a.Find(t)) }
func (s *slow) union(ids ...int) int    { return s.must(s.a.Union(ids)) }
func (s *slow) widen(id int) int        { return s.must(s.a.Widen(id)) }
func (s *slow) word(text string) int    { return slices.Index(strings.Fields(tenWords), text) }
func (s *slow) isAny(id int) bool       { return s.a.Text(id) == "any" }
func (s *slow) kidsOf(n int) []int      { return s.l[n].Kids }
func (s *slow) kind(n int) int          { return s.l[n].Kind }
func (s *slow) is(n int, w string) bool { return n >= 0 && isOf(s.l[n].Kind, w) }

const tenWords = "any unknown never void undefined null number string true false"

func (s *slow) at(id int) api.Type {
	t, e := s.a.At(id)
	if e != api.OK {
		panic(e)
	}
	return t
}

func (s *slow) parts(id int) []int {
	if t := s.at(id); t.Kind == api.KUnion {
		return t.Parts
	}
	return []int{id}
}

// takes: y takes x.
func (s *slow) takes(y, x int) bool {
	is, e := relate.Assignable(s.a, x, y)
	s.must(0, e)
	return is
}

func (s *slow) pieces(id int) ([]api.Piece, bool) {
	l, e := s.a.Pieces(id)
	if e == api.ErrNone {
		return nil, false
	}
	s.must(0, e)
	return l, true
}

// end is the number behind all that stands beneath a node.
func (s *slow) end(n int) int {
	if len(s.kidsOf(n)) == 0 {
		return n + 1
	}
	return s.end(s.kidsOf(n)[len(s.kidsOf(n))-1])
}

// kept are the nodes beneath a node for which something holds.
func (s *slow) beneath(n int, holds func(m int) bool) []int {
	var l []int
	for m := n + 1; m < s.end(n); m++ {
		if holds(m) {
			l = append(l, m)
		}
	}
	return l
}

// named is the first of these nodes that has a name; -1, if none has.
func (s *slow) named(l []int, name string) int {
	for _, n := range l {
		if s.l[n].Text == name {
			return n
		}
	}
	return -1
}

// inside is what stands in a Program, a Block or a Namespace, Exports opened.
func (s *slow) inside(n int) []int {
	var l []int
	for _, kid := range s.kidsOf(n) {
		if s.is(kid, "Export") {
			kid = s.kidsOf(kid)[0]
		}
		l = append(l, kid)
	}
	return l
}

func (s *slow) only(l []int, words string) []int {
	return slices.DeleteFunc(slices.Clone(l), func(n int) bool { return !s.is(n, words) })
}

// declared is what a scope has: of types, or of values.
func (s *slow) declared(n int, types bool) []int {
	switch {
	case s.is(n, "Program Block Namespace") && types:
		return s.only(s.inside(n), "Interface Alias Class Enum")
	case s.is(n, "Program Block Namespace"):
		return s.only(s.inside(n), "Var Func Class Enum Namespace")
	case s.is(n, "Func Method Arrow Class Interface Alias") && types:
		return s.kidsOf(s.kidsOf(n)[0])
	case s.is(n, "Func Method Arrow") && !types:
		return s.kidsOf(s.kidsOf(n)[1])
	case s.is(n, "Ctor") && !types:
		return s.kidsOf(s.kidsOf(n)[0])
	case s.is(n, "Catch ForOf") && !types:
		return []int{n}
	case s.is(n, "For") && !types:
		return s.only(s.kidsOf(n)[:1], "Var")
	}
	return nil
}

// look looks a name up, from a node on outwards.
func (s *slow) look(n int, name string, types bool) int {
	for n != 0 {
		from := n
		n = s.up[n]
		if s.is(n, "ForOf") && s.kidsOf(n)[0] == from {
			continue
		}
		if d := s.named(s.declared(n, types), name); d >= 0 {
			return d
		}
	}
	return -1
}

// ownWord is what a word always means.
func (s *slow) ownWord(word string) (int, bool) {
	if word == "boolean" {
		return s.union(s.word("false"), s.word("true")), true
	}
	id := s.word(word)
	return id, id >= 0
}

const (
	asValues = "Var Func Class Enum Namespace"
	asTypes  = "Class Interface Alias Enum"
)

// exports are those of a Namespace, as values or as types; of types but those that another has laid the name ahead of.
func (s *slow) exports(n int, words string) []int {
	if !s.is(n, "Namespace") {
		return nil
	}
	var l []int
	for _, kid := range s.kidsOf(n) {
		if s.is(kid, "Export") {
			l = append(l, s.only(s.kidsOf(kid), words)...)
		}
	}
	if words != asTypes {
		return l
	}
	return slices.DeleteFunc(l, func(d int) bool { return s.named(s.declared(n, true), s.l[d].Text) != d })
}

// standsFor is the declaration of a TypeName that has no meaning of its own.
func (s *slow) standsFor(n int) int {
	names := strings.Split(s.l[n].Text, ".")
	if len(names) == 1 {
		if _, own := s.ownWord(names[0]); own {
			return -1
		}
		return s.look(n, names[0], true)
	}
	d := s.look(n, names[0], false)
	for len(names) > 2 && d >= 0 {
		names = names[1:]
		d = s.named(s.exports(d, asValues), names[0])
	}
	if s.is(d, "Enum") {
		return s.named(s.kidsOf(d), names[1])
	}
	return s.named(s.exports(d, asTypes), names[1])
}

func (s *slow) params(d int) []int {
	if s.is(d, "Func Method Arrow Class Interface Alias") {
		return s.kidsOf(s.kidsOf(d)[0])
	}
	return nil
}

// leads tells whether one leads to another by steps, none at all too.
func leads(from, to int, steps func(n int) []int) bool {
	seen := map[int]bool{from: true}
	for next := []int{from}; len(next) > 0; next = next[1:] {
		if next[0] == to {
			return true
		}
		for _, n := range steps(next[0]) {
			if !seen[n] {
				seen[n] = true
				next = append(next, n)
			}
		}
	}
	return false
}

// aliasSteps are the Aliases that TypeNames beneath one stand for.
func (s *slow) aliasSteps(n int) []int {
	var l []int
	for _, m := range s.beneath(n, func(m int) bool { return s.is(m, "TypeName") }) {
		l = append(l, s.only([]int{max(0, s.standsFor(m))}, "Alias")...)
	}
	return l
}

// above is the nearest of these kinds that a node stands beneath; -1, if there is none.
func (s *slow) above(n int, words string) int {
	for n != 0 {
		n = s.up[n]
		if s.is(n, words) {
			return n
		}
	}
	return -1
}

func (s *slow) list(n int) []int {
	var l []int
	for _, kid := range s.kidsOf(n) {
		l = append(l, s.typ(kid))
	}
	return l
}

// typ is a type that is written.
func (s *slow) typ(n int) int {
	node := s.l[n]
	switch node.Kind {
	case api.TypeNum:
		return s.find(api.Type{Kind: api.KNumIs, Num: node.Num})
	case api.TypeStr:
		return s.find(api.Type{Kind: api.KStrIs, Text: node.Text})
	case api.TypeArray:
		return s.find(api.Type{Kind: api.KArray, Parts: s.list(n)})
	case api.TypeUnion:
		return s.union(s.list(n)...)
	case api.TypeFunc:
		return s.fn(node.Kids[0], s.typ(node.Kids[1]))
	case api.TypeObject:
		return s.object(n, func(kid int) int { return s.typ(s.kidsOf(kid)[0]) })
	}
	list := s.list(node.Kids[0])
	if id, own := s.ownWord(node.Text); own && len(list) == 0 {
		return id
	}
	d := s.standsFor(n)
	alias := s.above(n, "Alias")
	switch {
	case d < 0:
		s.offend(n, "no type")
	case len(list) != len(s.params(d)):
		s.offend(n, "unlike many")
	case alias >= 0 && s.is(d, "Alias") && leads(d, alias, s.aliasSteps):
		s.offend(n, "round")
	case s.is(d, "Alias"):
		return s.must(s.a.Subst(s.typ(s.kidsOf(d)[1]), s.params(d), list))
	case s.is(d, "Class Interface"):
		return s.bear(api.KRef, d, list...)
	case s.is(d, "Enum"):
		return s.bear(api.KEnum, d)
	case s.is(d, "EnumMember"):
		return s.bear(api.KCase, d, s.bear(api.KEnum, s.up[d]))
	default:
		return s.bear(api.KVar, d)
	}
	return s.word("any")
}

func (s *slow) bear(kind, d int, parts ...int) int {
	return s.find(api.Type{Kind: kind, Num: d, Text: s.l[d].Text, Parts: parts})
}

func (s *slow) own(d int) int {
	var l []int
	for _, p := range s.params(d) {
		l = append(l, s.bear(api.KVar, p))
	}
	return s.bear(api.KRef, d, l...)
}

// object is the type of a TypeObject or an Object, of whose kids a function says the types.
func (s *slow) object(n int, of func(kid int) int) int {
	var l []api.Piece
	for i, kid := range s.kidsOf(n) {
		id := of(kid)
		if s.named(s.kidsOf(n)[:i], s.l[kid].Text) >= 0 {
			s.offend(kid, "twice")
			continue
		}
		l = append(l, api.Piece{Name: s.l[kid].Text, Type: id, Mark: s.is(kid, "TypeProp") && s.l[kid].Num == api.Optional})
	}
	slices.SortFunc(l, func(x, y api.Piece) int { return cmp.Compare(x.Name, y.Name) })
	t := api.Type{Kind: api.KObject}
	for _, p := range l {
		t.Names, t.Parts, t.Marks = append(t.Names, p.Name), append(t.Parts, p.Type), append(t.Marks, p.Mark)
	}
	return s.find(t)
}

func (s *slow) orAny(n int) int {
	if s.is(n, "-") {
		return s.word("any")
	}
	return s.typ(n)
}

func (s *slow) param(n int) int {
	if s.l[n].Num&api.Optional != 0 {
		return s.union(s.orAny(s.kidsOf(n)[0]), s.word("undefined"))
	}
	return s.orAny(s.kidsOf(n)[0])
}

// fn is a KFunc of a List of Params and an answer.
func (s *slow) fn(list, answer int) int {
	t := api.Type{Kind: api.KFunc}
	for i, p := range s.kidsOf(list) {
		marked := s.l[p].Num&api.Optional != 0 || i > 0 && t.Marks[i-1]
		t.Parts, t.Marks = append(t.Parts, s.param(p)), append(t.Marks, marked)
	}
	t.Parts = append(t.Parts, answer)
	return s.find(t)
}

func (s *slow) function(n int) int { return s.fn(s.kidsOf(n)[1], s.orAny(s.kidsOf(n)[2])) }

// anys is a type with any in the place of parameters.
func (s *slow) anys(id int, params []int) int {
	return s.must(s.a.Subst(id, params, make([]int, len(params))))
}

// heir is what is extended, with types in the place of its parameters.
type heir struct {
	d     int
	types []int
}

func (s *slow) interfaceSteps(n int) []int {
	if !s.is(n, "Interface") {
		return nil
	}
	var l []int
	for _, m := range s.kidsOf(s.kidsOf(n)[1]) {
		if d := s.standsFor(m); d >= 0 {
			l = append(l, d)
		}
	}
	return l
}

// extends is what a Class or an Interface extends.
func (s *slow) extends(d int) []heir {
	var l []heir
	if s.is(d, "Class") {
		base := s.kidsOf(d)[1]
		if s.is(base, "-") {
			return nil
		}
		types := s.list(s.kidsOf(base)[0])
		of := s.uses[base]
		if !s.is(of, "Class") || len(s.params(of)) != len(types) {
			s.offend(base, "no base")
			return nil
		}
		s.bear(api.KRef, of, types...)
		return append(l, heir{of, types})
	}
	for _, n := range s.kidsOf(s.kidsOf(d)[1]) {
		s.typ(n)
		of := s.standsFor(n)
		switch {
		case s.bad[n] != "":
		case !s.is(of, "Interface Class"):
			s.offend(n, "no interface")
		case leads(of, d, s.interfaceSteps):
			s.offend(n, "round")
		default:
			l = append(l, heir{of, s.list(s.kidsOf(n)[0])})
		}
	}
	return l
}

// slot is a member: a piece, and its node.
type slot struct {
	api.Piece
	n int
}

func slotOf(l []slot, name string) (slot, bool) {
	at := slices.IndexFunc(l, func(x slot) bool { return x.Name == name })
	if at < 0 {
		return slot{}, false
	}
	return l[at], true
}

// own members: those that count.
func (s *slow) ownSlots(d int) []slot {
	var l []slot
	add := func(n, id int, mark bool) {
		if _, ok := slotOf(l, s.l[n].Text); ok {
			s.offend(n, "twice")
			return
		}
		l = append(l, slot{api.Piece{Name: s.l[n].Text, Type: id, Mark: mark}, n})
	}
	if s.is(d, "Interface") {
		for _, n := range s.kidsOf(s.kidsOf(d)[2]) {
			add(n, s.typ(s.kidsOf(n)[0]), s.l[n].Num == api.Optional)
		}
		return l
	}
	for _, n := range s.beneath(s.kidsOf(d)[3], func(n int) bool { return s.isMember(n, d) }) {
		switch {
		case s.is(n, "Field"):
			add(n, s.orAny(s.kidsOf(n)[0]), false)
		case s.is(n, "Method"):
			add(n, s.function(n), false)
		case s.is(n, "Param"):
			add(n, s.param(n), false)
		}
	}
	return l
}

// isMember tells whether a node is a member of that very Class.
func (s *slow) isMember(n, class int) bool {
	switch {
	case s.is(n, "Field Method"):
		return s.up[s.up[n]] == class
	case s.is(n, "Param"):
		ctor := s.up[s.up[n]]
		return s.is(ctor, "Ctor") && s.up[s.up[ctor]] == class && s.l[n].Num&^api.Optional != 0
	}
	return false
}

// slots is all that a Class or an Interface has.
func (s *slow) slots(d int) []slot {
	l := s.ownSlots(d)
	for _, h := range s.extends(d) {
		for _, m := range s.slots(h.d) {
			if _, ok := slotOf(l, m.Name); !ok {
				m.Type = s.must(s.a.Subst(m.Type, s.params(h.d), h.types))
				l = append(l, m)
			}
		}
	}
	return l
}

// heads asks all that is asked of types, classes and interfaces.
func (s *slow) heads() {
	for n := range s.l {
		l := s.declared(n, true)
		for i, d := range l {
			if s.named(l[:i], s.l[d].Text) >= 0 {
				s.offend(d, "two of one name")
			}
		}
	}
	for n, node := range s.l {
		switch {
		case node.Kind >= api.TypeName && node.Kind != api.TypeProp:
			s.typ(n)
		case s.is(n, "Param"):
			s.param(n)
		case s.is(n, "Func Method"):
			s.function(n)
		}
	}
	var all []int
	for n := range s.l {
		if s.is(n, "Class Interface") {
			all = append(all, n)
		}
	}
	for _, d := range all {
		var l []api.Piece
		for _, m := range s.slots(d) {
			l = append(l, m.Piece)
		}
		s.must(0, s.a.Define(d, s.params(d), l))
	}
	for _, d := range all {
		s.against(d)
	}
}

// against holds members against those in whose place they stand, and a Class against what it implements.
func (s *slow) against(d int) {
	own := s.ownSlots(d)
	for _, h := range s.extends(d) {
		for _, m := range s.slots(h.d) {
			mine, ok := slotOf(own, m.Name)
			if !ok {
				continue
			}
			taken := s.takes(s.must(s.a.Subst(m.Type, s.params(h.d), h.types)), mine.Type)
			if !taken || mine.Mark && !m.Mark {
				s.offend(mine.n, "in the place of another")
			}
		}
	}
	if !s.is(d, "Class") {
		return
	}
	for _, n := range s.kidsOf(s.kidsOf(d)[2]) {
		id := s.typ(n)
		_, some := s.pieces(id)
		if !some && !s.is(s.standsFor(n), "Class Interface") {
			s.offend(n, "no pieces")
		}
		if !s.takes(id, s.own(d)) {
			s.offend(n, "not implemented")
		}
	}
}

// fact is facts with another one.
func fact(f known, d, id int) known {
	f = maps.Clone(f)
	f[d] = id
	return f
}

func (s *slow) join(x, y spot) spot {
	if !x.reached || !y.reached {
		if x.reached {
			return x
		}
		return y
	}
	f := known{}
	for d, id := range x.f {
		if other, ok := y.f[d]; ok {
			f[d] = s.union(id, other)
		}
	}
	return spot{f, true}
}

// assigns tells whether something is assigned to a declaration beneath a node.
func (s *slow) assigns(n, d int) bool {
	return len(s.beneath(n, func(m int) bool {
		kid := 0
		if s.is(m, "Assign") {
			kid = s.kidsOf(m)[0]
		}
		return s.is(kid, "Name") && s.uses[kid] == d
	})) > 0
}

// less is facts without those of what is assigned to beneath a node.
func (s *slow) less(n int, f known) known {
	left := known{}
	for d, id := range f {
		if !s.assigns(n, d) {
			left[d] = id
		}
	}
	return left
}

// hasBreak tells whether a Break of a loop stands beneath it.
func (s *slow) hasBreak(n int) bool {
	return len(s.beneath(n, func(m int) bool { return s.is(m, "Break") && s.above(m, "While For ForOf") == n })) > 0
}

// inner is the innermost function of a node; -1, if there is none.
func (s *slow) inner(n int, words string) int {
	for n != 0 {
		from := n
		n = s.up[n]
		if s.is(n, words) || s.is(n, "Field") && s.kidsOf(n)[1] == from {
			return n
		}
	}
	return -1
}

// stmts is what is known behind all that stands in a Program, a Block or a Namespace.
func (s *slow) stmts(n int, p spot) spot {
	for _, m := range s.inside(n) {
		if p.reached {
			p = s.stmt(m, p)
		} else {
			s.stmt(m, spot{known{}, true})
		}
	}
	return p
}

func (s *slow) stmt(n int, p spot) spot {
	kids := s.kidsOf(n)
	nowhere := spot{known{}, false}
	switch s.kind(n) {
	case api.Var:
		id, f := s.expr(kids[1], p.f)
		if s.is(kids[0], "-") {
			return spot{f, true}
		}
		s.ask(s.typ(kids[0]), kids[1], id)
		return spot{fact(f, n, s.must(narrow.Assigned(s.a, s.typ(kids[0]), id))), true}
	case api.Func:
		s.body(n, p)
	case api.Class:
		for _, m := range s.kidsOf(kids[3]) {
			s.member(m, p)
		}
	case api.Enum:
		if _, at, e := fold.Members(s.x, n); e != api.OK {
			s.offend(at, "no member")
		}
		for _, m := range kids {
			if value := s.kidsOf(m)[0]; !s.is(value, "-") {
				s.expr(value, p.f)
			}
		}
	case api.Namespace, api.Block:
		return s.stmts(n, p)
	case api.If:
		_, f := s.expr(kids[0], p.f)
		yes, no := s.stmts(kids[1], spot{s.cond(kids[0], true, f), true}), spot{s.cond(kids[0], false, f), true}
		if !s.is(kids[2], "-") {
			no = s.stmt(kids[2], no)
		}
		return s.join(yes, no)
	case api.While, api.For, api.ForOf:
		return s.loop(n, p)
	case api.Return:
		s.ret(n, p)
		return nowhere
	case api.Break, api.Continue:
		return nowhere
	case api.Throw:
		s.expr(kids[0], p.f)
		return nowhere
	case api.Eval:
		_, f := s.expr(kids[0], p.f)
		return spot{f, true}
	case api.Try:
		f := s.less(n, p.f)
		first := s.stmts(kids[0], p)
		catch, last := nowhere, spot{f, true}
		if !s.is(kids[1], "-") {
			catch = s.stmts(s.kidsOf(kids[1])[0], spot{f, true})
		}
		if !s.is(kids[2], "-") {
			last = s.stmts(kids[2], spot{f, true})
		}
		if !first.reached && !catch.reached || !last.reached {
			return nowhere
		}
		return spot{f, true}
	}
	return p
}

func (s *slow) loop(n int, p spot) spot {
	kids := s.kidsOf(n)
	if s.is(n, "ForOf") {
		_, f := s.expr(kids[0], p.f)
		s.elements(n)
		f = s.less(n, f)
		s.stmts(kids[1], spot{f, true})
		return spot{f, true}
	}
	test, third, block := kids[0], -1, kids[1]
	if s.is(n, "For") {
		test, third, block = kids[1], kids[2], kids[3]
		if !s.is(kids[0], "-") {
			p = s.stmt(kids[0], p)
		}
	}
	begin := s.less(n, p.f)
	f := begin
	if !s.is(test, "-") {
		_, f = s.expr(test, begin)
	}
	if third >= 0 && !s.is(third, "-") {
		s.expr(third, s.cond(test, true, f))
	}
	s.stmts(block, spot{s.cond(test, true, f), true})
	if s.is(n, "While") && s.is(test, "True") && !s.hasBreak(n) {
		return spot{known{}, false}
	}
	if s.hasBreak(n) {
		return spot{begin, true}
	}
	return spot{s.cond(test, false, begin), true}
}

// elements is the type of what a ForOf's name stands for.
func (s *slow) elements(n int) int {
	first := s.kidsOf(n)[0]
	var l []int
	for _, part := range s.parts(s.types[first]) {
		switch t := s.at(part); t.Kind {
		case api.KArray:
			l = append(l, t.Parts[0])
		case api.KString, api.KStrIs:
			l = append(l, s.word("string"))
		case api.KAny:
			l = append(l, part)
		default:
			s.offend(first, "asked")
			return s.word("any")
		}
	}
	return s.union(l...)
}

func (s *slow) ret(n int, p spot) {
	at, id := n, s.word("undefined")
	if value := s.kidsOf(n)[0]; !s.is(value, "-") {
		at = value
		id, _ = s.expr(value, p.f)
	}
	fn := s.inner(n, "Func Method Ctor Arrow")
	if s.is(fn, "Func Method") && !s.is(s.kidsOf(fn)[2], "-") {
		s.ask(s.typ(s.kidsOf(fn)[2]), at, id)
	}
}

// ask has an expression, or what stands for it, offend, unless a type takes it.
func (s *slow) ask(y, n, x int) {
	if !s.takes(y, x) {
		s.offend(n, "asked")
	}
}

// begin is what is known where a function begins.
func (s *slow) begin(f known) spot { return spot{s.less(0, f), true} }

// body goes through a Func or a Method.
func (s *slow) body(n int, p spot) {
	kids := s.kidsOf(n)
	end := s.stmts(kids[3], s.begin(p.f))
	if end.reached && !s.is(kids[2], "-") && !s.takes(s.typ(kids[2]), s.word("undefined")) {
		s.offend(kids[2], "end")
	}
}

func (s *slow) member(n int, p spot) {
	kids := s.kidsOf(n)
	switch s.kind(n) {
	case api.Method:
		s.body(n, p)
	case api.Ctor:
		s.stmts(kids[1], s.begin(p.f))
	case api.Field:
		if !s.is(kids[1], "-") {
			id, _ := s.expr(kids[1], s.begin(p.f).f)
			s.ask(s.orAny(kids[0]), kids[1], id)
		}
	}
}
