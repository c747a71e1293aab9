package relate_test

import (
	"maps"
	"slices"

	"shuck/api"
)

// The chapter, word by word, without an eye to time.

// two is a pair: x for y.
type two struct{ x, y int }

// question is what a pair asks: yes, no, or all or one of others.
type question struct {
	word string
	of   []two
}

// reading is the pairs that are reached from the first one, with what they ask.
type reading struct {
	*world
	first   two
	most    int
	reached map[two]question
	isLarge bool // some Pieces can't be made
}

// slow reads what is reached, but no more pairs than that.
func (w *world) slow(x, y, most int) *reading {
	s := &reading{world: w, first: two{x, y}, most: most, reached: map[two]question{}}
	s.reach(s.first)
	return s
}

func (s *reading) reach(p two) {
	if _, ok := s.reached[p]; ok || len(s.reached) >= s.most {
		return
	}
	q := s.asks(p)
	s.reached[p] = q
	for _, next := range q.of {
		s.reach(next)
	}
}

func yesIf(b bool) question {
	if b {
		return question{word: "yes"}
	}
	return question{word: "no"}
}

func (s *reading) at(id int) api.Type {
	x, e := s.a.At(id)
	if e != api.OK {
		s.Fatalf("At(%d): %v", id, e)
	}
	return x
}

// asks is the first of the chapter's twelve that fits.
func (s *reading) asks(p two) question {
	x, y := s.at(p.x), s.at(p.y)
	are := func(kx, ky int) bool { return x.Kind == kx && y.Kind == ky }
	yes := yesIf(true)
	rules := []func() (bool, question){
		func() (bool, question) { return s.a.Text(p.x) == s.a.Text(p.y), yes },
		func() (bool, question) { return y.Kind == api.KAny || y.Kind == api.KUnknown, yes },
		func() (bool, question) { return x.Kind == api.KAny, yesIf(y.Kind != api.KNever) },
		func() (bool, question) { return x.Kind == api.KNever, yes },
		func() (bool, question) { return x.Kind == api.KUnknown, yesIf(false) },
		func() (bool, question) {
			q := question{word: "all"}
			for _, part := range x.Parts {
				q.of = append(q.of, two{part, p.y})
			}
			return x.Kind == api.KUnion, q
		},
		func() (bool, question) {
			q := question{word: "one"}
			for _, part := range y.Parts {
				q.of = append(q.of, two{p.x, part})
			}
			return y.Kind == api.KUnion, q
		},
		func() (bool, question) {
			its := are(api.KCase, api.KEnum) && s.a.Text(x.Parts[0]) == s.a.Text(p.y)
			enum := (x.Kind == api.KEnum || x.Kind == api.KCase) && (y.Kind == api.KNumber || y.Kind == api.KString)
			return are(api.KNumIs, api.KNumber) || are(api.KStrIs, api.KString) || are(api.KUndefined, api.KVoid) || its || enum, yes
		},
		func() (bool, question) {
			if !are(api.KArray, api.KArray) {
				return false, question{}
			}
			return true, question{"all", []two{{x.Parts[0], y.Parts[0]}}}
		},
		func() (bool, question) {
			if !are(api.KFunc, api.KFunc) {
				return false, question{}
			}
			return true, s.functions(x, y)
		},
		func() (bool, question) { return s.members(p) },
		func() (bool, question) { return true, yesIf(false) },
	}
	for _, rule := range rules {
		if fits, q := rule(); fits {
			return q
		}
	}
	panic("the last one fits")
}

func (s *reading) functions(x, y api.Type) question {
	lastX, lastY := len(x.Parts)-1, len(y.Parts)-1
	needed := 0
	for _, mark := range x.Marks {
		if !mark {
			needed++
		}
	}
	if needed > lastY {
		return yesIf(false)
	}
	q := question{word: "all"}
	for i, param := range y.Parts[:lastY] {
		if i < lastX {
			q.of = append(q.of, two{param, x.Parts[i]})
		}
	}
	if s.at(y.Parts[lastY]).Kind != api.KVoid {
		q.of = append(q.of, two{x.Parts[lastX], y.Parts[lastY]})
	}
	return q
}

// members is the eleventh one: whether it fits, and what it asks then.
func (s *reading) members(p two) (bool, question) {
	xs, ex := s.a.Pieces(p.x)
	ys, ey := s.a.Pieces(p.y)
	if ex == api.ErrNone || ey == api.ErrNone {
		return false, question{}
	}
	if ex == api.ErrComplex || ey == api.ErrComplex {
		s.isLarge = true
		return true, question{word: "?"}
	}
	named := map[string]api.Piece{}
	for _, piece := range xs {
		named[piece.Name] = piece
	}
	q := question{word: "all"}
	for _, piece := range ys {
		mine, ok := named[piece.Name]
		if !piece.Mark && (!ok || mine.Mark) {
			return true, yesIf(false)
		}
		if ok {
			q.of = append(q.of, two{mine.Type, piece.Type})
		}
	}
	return true, q
}

// isYes answers a question, where a pair counts as yes just if it is in the set.
func (q question) isYes(set map[two]question) bool {
	isIn := func(p two) bool { _, ok := set[p]; return ok }
	switch q.word {
	case "all":
		return !slices.ContainsFunc(q.of, func(p two) bool { return !isIn(p) })
	case "one":
		return slices.ContainsFunc(q.of, isIn)
	}
	return q.word == "yes"
}

// isAnswered tells whether each one's question in a set is answered yes.
func isAnswered(set map[two]question) bool {
	for _, q := range set {
		if !q.isYes(set) {
			return false
		}
	}
	return true
}

// greatest tells whether the first pair is in the greatest set.
func (s *reading) greatest() bool {
	set := maps.Clone(s.reached)
	for length := -1; length != len(set); {
		length = len(set)
		maps.DeleteFunc(set, func(_ two, q question) bool { return !q.isYes(set) })
	}
	_, ok := set[s.first]
	if len(s.reached) <= 9 && s.isInOne() != ok {
		s.Fatalf("%s for %s: %v, but not by all sets", s.a.Text(s.first.x), s.a.Text(s.first.y), ok)
	}
	return ok
}

// isInOne tells whether the first pair is in any set in which each one's question is answered yes: the greatest one has them all.
func (s *reading) isInOne() bool {
	pairs := slices.Collect(maps.Keys(s.reached))
	for bits := range 1 << len(pairs) {
		set := map[two]question{}
		for i, p := range pairs {
			if bits>>i&1 == 1 {
				set[p] = s.reached[p]
			}
		}
		if _, ok := set[s.first]; ok && isAnswered(set) {
			return true
		}
	}
	return false
}
