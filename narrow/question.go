package narrow

import (
	"slices"

	"shuck/api"
	"shuck/kinds"
)

// verdict is what a test says of a part.
type verdict int

const (
	either verdict = iota
	surelyNot
	surely
)

func sure(is bool) verdict {
	if is {
		return surely
	}
	return surelyNot
}

// question is a test that is asked of parts.
type question struct {
	api.Test
	arena *kinds.Arena
	value part // Type; it has no kind, if there is none
}

func asked(a *kinds.Arena, t api.Test) question {
	return question{t, a, partAt(a, t.Type)}
}

// rule tells what a test says of a part; or the error of Pieces that can't be made.
type rule func(part) (verdict, api.Errno)

// rule is that of the test's kind; there is none, if that is no kind, or if it needs a type of one value and has none.
func (q question) rule() (rule, bool) {
	table := [...]rule{
		api.TestKind:  q.ofKind,
		api.TestIs:    q.ofValue,
		api.TestTruth: q.ofTruth,
		api.TestHas:   q.ofMember,
		api.TestField: q.ofField,
	}
	if q.Kind < api.TestKind || q.Kind >= len(table) || q.needsValue() && !q.value.isOneValue() {
		return nil, false
	}
	return table[q.Kind], true
}

func (q question) needsValue() bool { return q.Kind == api.TestIs || q.Kind == api.TestField }

func (q question) ofKind(p part) (verdict, api.Errno) {
	says := p.typeofSays()
	if says == "" {
		return either, api.OK
	}
	return sure(says == q.Text), api.OK
}

func (q question) ofValue(p part) (verdict, api.Errno) { return p.is(q.value), api.OK }

// is tells whether a part's values are that of a type of one value.
func (p part) is(value part) verdict {
	switch {
	case p.id == value.id:
		return surely
	case p.isOneValue() && !mayBeAlike(p, value):
		return surelyNot
	case areUnlike(p.typeofSays(), value.typeofSays()):
		return surelyNot
	case p.Kind == api.KVoid && value.Kind != api.KUndefined:
		return surelyNot
	}
	return either
}

// mayBeAlike tells whether one is a member of an enum, and the other one a number or a text that it may be.
func mayBeAlike(x, y part) bool {
	return x.Kind == api.KCase && y.isLiteral() || y.Kind == api.KCase && x.isLiteral()
}

// areUnlike tells whether typeof says something of both, and not the same.
func areUnlike(x, y string) bool { return x != "" && y != "" && x != y }

func (q question) ofTruth(p part) (verdict, api.Errno) {
	switch p.Kind {
	case api.KUndefined, api.KVoid, api.KNull, api.KFalse:
		return surelyNot, api.OK
	case api.KNumIs:
		return sure(p.Num != 0), api.OK
	case api.KStrIs:
		return sure(p.Text != ""), api.OK
	case api.KTrue, api.KArray, api.KObject, api.KRef, api.KFunc, api.KClass, api.KCases, api.KSpace:
		return surely, api.OK
	}
	return either, api.OK
}

func (q question) ofMember(p part) (verdict, api.Errno) {
	return q.ofPiece(p, func(int) verdict { return surely })
}

func (q question) ofField(p part) (verdict, api.Errno) { return q.ofPiece(p, q.ofAll) }

// ofPiece is what is said by the type of a part's member that can't lack; of other members, and where there are none, it is the same whatever is asked.
func (q question) ofPiece(p part, byType func(id int) verdict) (verdict, api.Errno) {
	pieces, e := q.arena.Pieces(p.id)
	switch e {
	case api.OK:
	case api.ErrNone:
		return either, api.OK // it has none
	default:
		return either, e
	}
	at := slices.IndexFunc(pieces, func(piece api.Piece) bool { return piece.Name == q.Text })
	switch {
	case at >= 0 && !pieces[at].Mark:
		return byType(pieces[at].Type), api.OK
	case at < 0 && p.Kind == api.KObject:
		return surelyNot, api.OK
	}
	return either, api.OK
}

// ofAll is what is said of a member by all parts of its type.
func (q question) ofAll(id int) verdict {
	whole := partAt(q.arena, id)
	if whole.Kind != api.KUnion {
		return whole.is(q.value)
	}
	for p := range partsOf(q.arena, id) {
		if p.is(q.value) != surelyNot {
			return either
		}
	}
	return surelyNot
}
