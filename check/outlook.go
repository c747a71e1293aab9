package check

import (
	"slices"

	"shuck/api"
)

// Types that have each other in all orders of their parts lead to more pairs than anyone can wait for, and most of these match nothing. An outlook tells so ahead: it goes through what Classes and Interfaces declare, with all that may stand in the place of their parameters at once, in the place of each type that comes of it. It sees all that a pair leads to, and maybe more.

// fewPairs is what is sooner gone through than looked ahead of.
const fewPairs = 256

// foresight is when a matching looks ahead: no more is spent on outlooks that were of no use than on the pairs themselves.
type foresight struct {
	walked  int      // how many pairs were gone through
	wait    int      // up to which of them nothing is looked ahead of
	outlook *outlook // all that it has seen leads to nothing
}

// foresees tells whether a pair, with all that it leads to, is known to match nothing, and to be not too complex.
func (m *matching) foresees(p pair) bool {
	if m.walked < m.wait {
		return false
	}
	if m.outlook == nil {
		m.outlook = newOutlook(m)
	}
	o := m.outlook
	before := o.spent
	o.most = before + max(m.walked, fewPairs)
	if o.isBarren(p) {
		return true
	}
	m.outlook = nil
	m.wait = m.walked + o.spent - before
	return false
}

// term is a type as its owner, a Class or an Interface, has it: with whatever may stand in the place of the owner's parameters. Without an owner it is the type itself.
type term struct{ id, owner int }

// meeting is all pairs that a term of an argument and one of a Param may be.
type meeting struct{ x, y term }

// outlook is what pairs lead to, as far as it was looked at.
type outlook struct {
	*matching
	x, y  *side // of arguments, of Params
	met   map[meeting]struct{}
	next  []meeting
	bears bool // whether something may be matched, or be too complex
	spent int
	most  int // that may be spent
}

func newOutlook(m *matching) *outlook {
	return &outlook{matching: m, x: newSide(), y: newSide(), met: map[meeting]struct{}{}}
}

// isBarren tells whether a pair leads to nothing; not, if it can't be told.
func (o *outlook) isBarren(p pair) bool {
	o.meet(meeting{term{p.x, nowhere}, term{p.y, nowhere}})
	for len(o.next) > 0 && o.goesOn() {
		last := len(o.next) - 1
		m := o.next[last]
		o.next = o.next[:last]
		o.look(m)
	}
	o.measure(o.x)
	o.measure(o.y)
	return o.goesOn()
}

// goesOn tells whether there is still something to be found out.
func (o *outlook) goesOn() bool { return !o.bears && o.spent <= o.most }

// meet notes a meeting that is to be looked at, once.
func (o *outlook) meet(m meeting) {
	if _, ok := o.met[m]; ok {
		return
	}
	o.met[m] = struct{}{}
	o.spent++
	o.next = append(o.next, m)
}

// meetAll notes the meetings that types of two owners lead to.
func (o *outlook) meetAll(l []pair, ofX, ofY int) {
	for _, p := range l {
		o.meet(meeting{term{p.x, ofX}, term{p.y, ofY}})
	}
}

// look goes on to all that the pairs of a meeting may lead to.
func (o *outlook) look(m meeting) {
	x, y := o.at(m.x.id), o.at(m.y.id)
	toX := func(t term) { o.meet(meeting{t, m.y}) }
	toY := func(t term) { o.meet(meeting{m.x, t}) }
	switch {
	case o.isOpen(y, m.y.owner):
		o.y.each(y.Num, toY)
	case o.number(y) != nowhere:
		o.bears = o.bears || o.said[o.number(y)] == nowhere
	case o.isOpen(x, m.x.owner):
		o.x.each(x.Num, toX)
	case y.Kind == api.KUnion:
		o.eachLeft(y.Parts, m.y.owner, toY)
	case x.Kind == api.KUnion:
		o.eachLeft(x.Parts, m.x.owner, toX)
	default:
		o.lookWithin(m, x, y)
	}
}

// lookWithin goes on to the parts and the members of types that are what they are, whatever stands in the place of parameters.
func (o *outlook) lookWithin(m meeting, x, y api.Type) {
	if l, ok := ofOneForm(x, y); ok {
		o.meetAll(l, m.x.owner, m.y.owner)
		return
	}
	if !o.mayHavePieces(m.x.id) || !o.mayHavePieces(m.y.id) {
		return
	}
	its, ofX := o.members(o.x, m.x, x)
	asked, ofY := o.members(o.y, m.y, y)
	o.meetAll(ofPieces(its, asked), ofX, ofY)
}

// isOpen tells whether a type is a parameter of its owner.
func (o *outlook) isOpen(t api.Type, owner int) bool {
	return owner != nowhere && t.Kind == api.KVar && slices.Contains(o.parameters(owner), t.Num)
}

// eachLeft goes through the parts of a union that may be all that is left of it, when something stands in the place of its owner's parameters, and through the parameters among them.
func (o *outlook) eachLeft(parts []int, owner int, hand func(term)) {
	for _, part := range parts {
		if o.at(part).Kind == api.KVar || owner != nowhere && o.mayBeLeft(part, parts, owner) {
			hand(term{part, owner})
		}
	}
}

// mayBeLeft tells whether each other part of a union may become the same as one. What stays of another kind, or another's, never does; and what takes a value in stays in its place.
func (o *outlook) mayBeLeft(part int, parts []int, owner int) bool {
	t := o.at(part)
	return !slices.ContainsFunc(parts, func(id int) bool {
		other := o.at(id)
		return !o.isOpen(other, owner) && (other.Kind != t.Kind || other.Num != t.Num)
	})
}

// members is what a type has, and who owns the types of that.
func (o *outlook) members(s *side, t term, x api.Type) ([]api.Piece, int) {
	if x.Kind == api.KObject {
		l, _ := o.piecesOf(t.id)
		return l, t.owner
	}
	o.refer(s, t, x)
	return o.declaredPieces(x.Num), x.Num
}

// declaredPieces is what a Class or an Interface has, with its own parameters.
func (o *outlook) declaredPieces(decl int) []api.Piece {
	l, _ := o.piecesOf(o.own(decl))
	return l
}

// refer has the parts of a reference stand in the place of parameters.
func (o *outlook) refer(s *side, t term, x api.Type) {
	if !s.note(t) {
		return
	}
	for i, v := range o.parameters(x.Num) {
		s.give(v, term{x.Parts[i], t.owner})
	}
	o.raise(s, t)
}

// raise has the parameters of what is referred to be as large as a reference makes them.
func (o *outlook) raise(s *side, t term) {
	o.spent++
	x := o.at(t.id)
	grown := raised(s.sums, x.Num, o.largest(s, t.owner, x.Parts...))
	for i, v := range o.parameters(x.Num) {
		grown = raised(s.sizes, v, o.largest(s, t.owner, x.Parts[i])) || grown
	}
	if grown {
		s.grown = append(s.grown, x.Num)
	}
}

// measure looks whether all members that are to be made are small enough to be made.
func (o *outlook) measure(s *side) {
	for len(s.grown) > 0 && o.goesOn() {
		last := len(s.grown) - 1
		decl := s.grown[last]
		s.grown = s.grown[:last]
		o.bears = s.sums[decl] > api.MaxSize
		for _, p := range o.declaredPieces(decl) {
			o.bears = o.bears || o.largest(s, decl, p.Type) > api.MaxSize
		}
		for _, t := range s.refs[decl] {
			o.raise(s, t)
		}
	}
}

// largest is a size that types of an owner together are not above, whatever stands in the place of its parameters: by how large each of these may be, or by how large they may be together.
func (o *outlook) largest(s *side, owner int, ids ...int) int {
	uses := map[int]int{}
	size := 0
	for _, id := range ids {
		size += o.sizeBeside(id, owner, uses)
	}
	sum, most := 0, 0
	for v, count := range uses {
		sum += count * s.sizes[v]
		most = max(most, count)
	}
	return size + min(sum, most*s.sums[owner])
}

// sizeBeside is the size of a type beside the parameters of its owner, whose uses it counts.
func (o *outlook) sizeBeside(id, owner int, uses map[int]int) int {
	t := o.at(id)
	if o.isOpen(t, owner) {
		uses[t.Num]++
		return 0
	}
	size := 1
	for _, part := range t.Parts {
		size += o.sizeBeside(part, owner, uses)
	}
	return size
}
