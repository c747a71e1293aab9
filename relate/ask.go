package relate

import (
	"slices"
	"strings"

	"shuck/api"
	"shuck/kinds"
)

// question is what a pair asks: its answer is yes, if no more than so many of these pairs are no.
type question struct {
	pairs []pair
	spare int
}

func all(pairs ...pair) question { return question{pairs, 0} }

func one(pairs ...pair) question { return question{pairs, len(pairs) - 1} }

// settledAs is a question that asks nothing further: all of none is yes, one of none is no.
func settledAs(yes bool) question {
	if yes {
		return all()
	}
	return one()
}

// rules is what it takes to say what pairs ask.
type rules struct {
	arena    *kinds.Arena
	pieces   map[int]members // of types that were asked for them: many pairs have one type
	tooLarge bool            // whether there were some that can't be made
}

// members is what an arena answers of a type's Pieces.
type members struct {
	list []api.Piece // rising by Name
	err  api.Errno
}

// asked is what a pair asks, by the first of the chapter's rules that fits.
func (r *rules) asked(p pair) question {
	x, y := r.at(p.x), r.at(p.y)
	switch {
	case p.x == p.y, y.Kind == api.KAny, y.Kind == api.KUnknown:
		return settledAs(true)
	case x.Kind == api.KAny:
		return settledAs(y.Kind != api.KNever)
	case x.Kind == api.KNever:
		return settledAs(true)
	case x.Kind == api.KUnknown:
		return settledAs(false)
	case x.Kind == api.KUnion:
		return all(eachTo(x.Parts, p.y)...)
	case y.Kind == api.KUnion:
		return one(toEach(p.x, y.Parts)...)
	case isValueOf(x, y, p.y):
		return settledAs(true)
	case x.Kind == api.KArray && y.Kind == api.KArray:
		return all(pair{x.Parts[0], y.Parts[0]})
	case x.Kind == api.KFunc && y.Kind == api.KFunc:
		return r.askedOfFuncs(x, y)
	}
	return r.askedOfPieces(p)
}

// at is the type of a number that is there.
func (r *rules) at(id int) api.Type {
	t, _ := r.arena.At(id)
	return t
}

func eachTo(parts []int, y int) []pair {
	l := make([]pair, len(parts))
	for i, part := range parts {
		l[i] = pair{part, y}
	}
	return l
}

func toEach(x int, parts []int) []pair {
	l := make([]pair, len(parts))
	for i, part := range parts {
		l[i] = pair{x, part}
	}
	return l
}

// isValueOf tells whether x's values are some of y's by their kinds alone; y has the number id.
func isValueOf(x, y api.Type, id int) bool {
	isEither := y.Kind == api.KNumber || y.Kind == api.KString
	switch x.Kind {
	case api.KNumIs:
		return y.Kind == api.KNumber
	case api.KStrIs:
		return y.Kind == api.KString
	case api.KUndefined:
		return y.Kind == api.KVoid
	case api.KCase:
		return x.Parts[0] == id || isEither
	case api.KEnum:
		return isEither
	}
	return false
}

// askedOfFuncs is what functions ask: y's arguments go to x, x's answer goes where y's is asked for.
func (r *rules) askedOfFuncs(x, y api.Type) question {
	if unmarked(x.Marks) > len(y.Marks) {
		return settledAs(false)
	}
	var l []pair
	for i := range min(len(x.Marks), len(y.Marks)) {
		l = append(l, pair{y.Parts[i], x.Parts[i]})
	}
	if answer := answerOf(y); r.at(answer).Kind != api.KVoid {
		l = append(l, pair{answerOf(x), answer})
	}
	return all(l...)
}

func unmarked(marks []bool) int {
	count := 0
	for _, mark := range marks {
		if !mark {
			count++
		}
	}
	return count
}

func answerOf(f api.Type) int { return f.Parts[len(f.Parts)-1] }

// askedOfPieces is what a pair asks at which no other rule fits.
func (r *rules) askedOfPieces(p pair) question {
	x, y := r.piecesOf(p.x), r.piecesOf(p.y)
	if x.err == api.ErrNone || y.err == api.ErrNone {
		return settledAs(false)
	}
	if x.err != api.OK || y.err != api.OK {
		r.tooLarge = true
		return settledAs(false)
	}
	var l []pair
	for _, piece := range y.list {
		its, ok := x.named(piece.Name)
		if !piece.Mark && (!ok || its.Mark) {
			return settledAs(false)
		}
		if ok {
			l = append(l, pair{its.Type, piece.Type})
		}
	}
	return all(l...)
}

// piecesOf asks the arena once for each type.
func (r *rules) piecesOf(id int) members {
	m, ok := r.pieces[id]
	if !ok {
		m.list, m.err = r.arena.Pieces(id)
		r.pieces[id] = m
	}
	return m
}

// named is the piece of a Name.
func (m members) named(name string) (api.Piece, bool) {
	at, ok := slices.BinarySearchFunc(m.list, name, func(p api.Piece, name string) int {
		return strings.Compare(p.Name, name)
	})
	if !ok {
		return api.Piece{}, false
	}
	return m.list[at], true
}
