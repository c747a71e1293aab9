package check

import (
	"slices"

	"shuck/api"
)

// matching is parameters for types, of which arguments say what they are.
type matching struct {
	*checker
	vars []int
	said []int // of each, what it was matched by; nowhere, as long as there is nothing
	seen map[pair]struct{}
	foresight
}

// matched is the types that a call's arguments say for a function's parameters.
func (c *checker) matched(k call, s signature) []int {
	if len(s.vars) == 0 {
		return nil
	}
	m := &matching{
		checker:   c,
		vars:      s.vars,
		said:      slices.Repeat([]int{nowhere}, len(s.vars)),
		seen:      map[pair]struct{}{},
		foresight: foresight{wait: c.patience},
	}
	for i := range min(len(k.given), len(s.params)) {
		m.match(pair{k.given[i], s.params[i]})
	}
	for i, id := range m.said {
		if id == nowhere {
			m.said[i] = unknownType
		}
	}
	return m.said
}

// match matches a pair, an argument's type for a Param's, and all pairs that it leads to, each once, but such that lead to nothing. What is still to come is a stack, not calls: one pair may lead to very many.
func (m *matching) match(p pair) {
	next := []pair{p}
	for len(next) > 0 {
		last := len(next) - 1
		p, next = next[last], next[:last]
		if _, ok := m.seen[p]; ok {
			continue
		}
		m.seen[p] = struct{}{}
		if m.foresees(p) {
			continue
		}
		m.walked++
		l := m.ledTo(p)
		slices.Reverse(l)
		next = append(next, l...)
	}
}

// ledTo matches a parameter, or is the pairs that a pair of other types leads to, in order.
func (m *matching) ledTo(p pair) []pair {
	x, y := m.at(p.x), m.at(p.y)
	if i := m.number(y); i != nowhere {
		m.settle(i, p.x)
		return nil
	}
	if l, ok := ofOneForm(x, y); ok {
		return l
	}
	if y.Kind == api.KUnion {
		return m.ofUnion(p.x, y.Parts)
	}
	if !m.mayHavePieces(p.x) || !m.mayHavePieces(p.y) {
		return nil
	}
	its, _ := m.piecesOf(p.x)
	asked, _ := m.piecesOf(p.y)
	return ofPieces(its, asked)
}

// number is which of the parameters a type is; nowhere, if it is none.
func (m *matching) number(t api.Type) int {
	if t.Kind != api.KVar {
		return nowhere
	}
	return slices.Index(m.vars, t.Num)
}

// settle has a parameter be what an argument is, if nothing was matched for it.
func (m *matching) settle(i, id int) {
	if m.said[i] == nowhere {
		m.said[i] = m.widen(id)
	}
}

// ofOneForm is the parts that types of one form have beside each other; not, if they are of no such form.
func ofOneForm(x, y api.Type) ([]pair, bool) {
	switch {
	case x.Kind != y.Kind:
		return nil, false
	case x.Kind == api.KFunc:
		return ofFuncs(x, y), true
	case x.Kind == api.KArray, x.Kind == api.KRef && x.Num == y.Num:
		return pairs(x.Parts, y.Parts), true
	}
	return nil, false
}

// pairs is what two lists have beside each other.
func pairs(x, y []int) []pair {
	l := make([]pair, min(len(x), len(y)))
	for i := range l {
		l[i] = pair{x[i], y[i]}
	}
	return l
}

func ofFuncs(x, y api.Type) []pair {
	a, b := len(x.Marks), len(y.Marks)
	return append(pairs(x.Parts[:a], y.Parts[:b]), pair{x.Parts[a], y.Parts[b]})
}

// ofUnion is the parameters among a union's parts, with what else an argument may be.
func (m *matching) ofUnion(x int, parts []int) []pair {
	var others []int
	for _, part := range m.parts(x) {
		if !slices.Contains(parts, part) {
			others = append(others, part)
		}
	}
	rest := m.union(others...)
	var l []pair
	for _, part := range parts {
		if m.number(m.at(part)) != nowhere {
			l = append(l, pair{rest, part})
		}
	}
	return l
}

// ofPieces is the members of one name, rising by the names of those that are asked for.
func ofPieces(its, asked []api.Piece) []pair {
	var l []pair
	for _, p := range asked {
		if its, ok := named(its, p.Name); ok {
			l = append(l, pair{its.Type, p.Type})
		}
	}
	return l
}
