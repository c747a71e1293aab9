package bind_test

import (
	"strings"

	"shuck/api"
)

// slow goes through a program word by word as the chapter does, and asks everything anew of each node.
type slow struct {
	l  []api.Node
	up []int // of each node, the one that it is a kid of; -1 of the root
}

func newSlow(x api.Tree) slow {
	s := slow{x.Nodes, make([]int, len(x.Nodes))}
	s.up[0] = -1
	for n, node := range s.l {
		for _, kid := range node.Kids {
			s.up[kid] = n
		}
	}
	return s
}

func (s slow) is(n int, words string) bool { return n >= 0 && isOf(s.l[n].Kind, words) }

// beneath tells whether a node stands beneath another.
func (s slow) beneath(n, above int) bool {
	for n = s.up[n]; n >= 0; n = s.up[n] {
		if n == above {
			return true
		}
	}
	return false
}

// typed tells whether a node is for types, or stands beneath one that is.
func (s slow) typed(n int) bool {
	for ; n >= 0; n = s.up[n] {
		if s.is(n, "Interface Alias TypeParam TypeName TypeNum TypeStr TypeArray TypeObject TypeProp TypeFunc TypeUnion") {
			return true
		}
	}
	return false
}

// scopes are those that a node stands in, the innermost first.
func (s slow) scopes(n int) []int {
	var l []int
	for ; s.up[n] >= 0; n = s.up[n] {
		above := s.up[n]
		if s.is(above, "Program Block Func Method Ctor Arrow Catch For Namespace") || s.is(above, "ForOf") && s.l[above].Kids[1] == n {
			l = append(l, above)
		}
	}
	return l
}

// scope is the one that a declaration lays its name into.
func (s slow) scope(declaration int) int {
	if s.is(declaration, "Catch ForOf") {
		return declaration
	}
	return s.scopes(declaration)[0]
}

// has is the first declaration of a name in a scope, -1 if it has none.
func (s slow) has(scope int, name string) int {
	for n := range s.l {
		if s.declares(n) && s.l[n].Text == name && s.scope(n) == scope {
			return n
		}
	}
	return -1
}

func (s slow) declares(n int) bool { return s.is(n, declaring) && !s.typed(n) }

func (s slow) uses(n int) bool { return s.is(n, "Name Base") }

// function is one of the chapter's functions: a Func, a Method, a Ctor, an Arrow, or, if value, the value of a Field.
type function struct {
	node  int
	value bool
}

// functions are those that a node stands in, the innermost first. A Field's value stands in itself.
func (s slow) functions(n int) []function {
	var l []function
	for ; s.up[n] >= 0; n = s.up[n] {
		above := s.up[n]
		if s.is(above, "Field") && s.l[above].Kids[1] == n {
			l = append(l, function{n, true})
		}
		if s.is(above, "Func Method Ctor Arrow") {
			l = append(l, function{above, false})
		}
	}
	return l
}

// between tells whether a function stands between a declaration and a use.
func (s slow) between(declaration, use int) bool {
	for _, f := range s.functions(use) {
		if !s.beneath(declaration, f.node) && !(f.value && declaration == f.node) {
			return true
		}
	}
	return false
}

// unknownName is what a use stands for that has no declaration.
const unknownName = -2

// standsFor is the declaration of a use, -1 of the surroundings.
func (s slow) standsFor(use int) int {
	for _, scope := range s.scopes(use) {
		if d := s.has(scope, s.l[use].Text); d >= 0 {
			return d
		}
	}
	if name := s.l[use].Text; name == "print" || name == "input" {
		return -1
	}
	return unknownName
}

// behind is the number behind all that stands beneath a node.
func (s slow) behind(n int) int {
	last := n
	for m := range s.l {
		if s.beneath(m, n) {
			last = m
		}
	}
	return last + 1
}

// offends are the chapter's nine ways.
func (s slow) offends() []func(n int) bool {
	return []func(n int) bool{
		s.offends1, s.offends2, s.offends3, s.offends4, s.offends5, s.offends6, s.offends7, s.offends8, s.offends9,
	}
}

func (s slow) offends1(n int) bool {
	if !s.declares(n) {
		return false
	}
	name := s.l[n].Text
	if s.has(s.scope(n), name) != n {
		return true
	}
	block := s.up[n]
	return s.is(block, "Block") && s.is(s.up[block], "Func Method Ctor Arrow Catch") && s.has(s.up[block], name) >= 0
}

func (s slow) offends2(n int) bool { return s.uses(n) && s.standsFor(n) == unknownName }

func (s slow) offends3(n int) bool {
	if !s.uses(n) {
		return false
	}
	d := s.standsFor(n)
	return s.is(d, "Var Class Enum Namespace") && n < s.behind(d) && !s.between(d, n)
}

func (s slow) offends4(n int) bool {
	if !s.is(n, "Assign") || !s.is(s.l[n].Kids[0], "Name") {
		return false
	}
	d := s.standsFor(s.l[n].Kids[0])
	switch {
	case d == unknownName, s.is(d, "Param Catch"):
		return false
	case s.is(d, "Var ForOf"):
		return s.l[d].Num != api.Let
	}
	return true
}

// about are the nodes about a node, up to one that is left out, the innermost first.
func (s slow) about(n, end int) []int {
	var l []int
	for n = s.up[n]; n != end; n = s.up[n] {
		l = append(l, n)
	}
	return l
}

// first is the first of some nodes that is one of these words, -1 if none is.
func (s slow) first(l []int, words string) int {
	for _, n := range l {
		if s.is(n, words) {
			return n
		}
	}
	return -1
}

func (s slow) offends5(n int) bool {
	if !s.is(n, "Return") {
		return false
	}
	l := s.functions(n)
	if len(l) == 0 || l[0].value || s.first(s.about(n, l[0].node), "Namespace") >= 0 {
		return true
	}
	return s.is(l[0].node, "Ctor") && !s.is(s.l[n].Kids[0], "-")
}

func (s slow) offends6(n int) bool {
	if !s.is(n, "Break Continue") {
		return false
	}
	end := -1
	if l := s.functions(n); len(l) > 0 {
		end = l[0].node
	}
	l := s.about(n, end)
	if namespace := s.first(l, "Namespace"); namespace >= 0 {
		l = s.about(n, namespace)
	}
	return s.first(l, "While For ForOf") < 0
}

// owner is the innermost function that is no Arrow, if a This may stand there.
func (s slow) owner(n int) (function, bool) {
	for _, f := range s.functions(n) {
		if !f.value && s.is(f.node, "Arrow") {
			continue
		}
		good := f.value || s.is(f.node, "Method Ctor")
		end := f.node
		if f.value {
			end = s.up[f.node]
		}
		return f, good && s.first(s.about(n, end), "Namespace") < 0
	}
	return function{}, false
}

func (s slow) offends7(n int) bool {
	_, ok := s.owner(n)
	return s.is(n, "This") && !ok
}

// based tells whether the innermost class about a node has a Base.
func (s slow) based(n int) bool {
	class := s.first(s.about(n, -1), "Class")
	return s.is(s.l[class].Kids[1], "Base")
}

func (s slow) offends8(n int) bool {
	f, ok := s.owner(n)
	return s.is(n, "SuperMember") && (!ok || !s.based(f.node))
}

// begins tells whether a Ctor's Block begins with an Eval of a Super, and which it is.
func (s slow) begins(ctor int) (int, bool) {
	block := s.l[ctor].Kids[1]
	if len(s.l[block].Kids) == 0 || !s.is(s.l[block].Kids[0], "Eval") {
		return 0, false
	}
	kid := s.l[s.l[block].Kids[0]].Kids[0]
	return kid, s.is(kid, "Super")
}

func (s slow) offends9(n int) bool {
	if s.is(n, "Ctor") {
		_, ok := s.begins(n)
		return s.based(n) && !ok
	}
	if !s.is(n, "Super") {
		return false
	}
	ctor := s.first(s.about(n, -1), "Ctor")
	if ctor < 0 || !s.based(ctor) {
		return true
	}
	super, ok := s.begins(ctor)
	return !ok || super != n
}

// ways are the numbers of the ways in which a node offends.
func (s slow) ways(n int) string {
	var l []string
	for i, offends := range s.offends() {
		if offends(n) {
			l = append(l, string(rune('1'+i)))
		}
	}
	return strings.Join(l, " ")
}

// program is what the chapter answers of a tree that it takes; and how the node offends.
func (s slow) program() ([]api.Use, int, api.Errno, string) {
	for n := range s.l {
		if ways := s.ways(n); ways != "" {
			return nil, n, api.ErrName, ways
		}
	}
	var uses []api.Use
	for n := range s.l {
		if s.uses(n) {
			d := s.standsFor(n)
			uses = append(uses, api.Use{At: n, Decl: d, Late: s.is(d, "Var Class Enum Namespace") && s.between(d, n)})
		}
	}
	return uses, -1, api.OK, ""
}
