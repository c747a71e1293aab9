package machine_test

import (
	"shuck/api"
	"shuck/fold"
)

// What the slow reading does of what is not plain.

// constant is the value of a Member, if its kid is a Name that stands for a Const Enum.
func (s *slowRun) constant(n int, c where) (api.Value, bool) {
	kid := s.kids(n)[0]
	if !s.isOf(kid, api.Name) {
		return api.Value{}, false
	}
	name := s.l[kid].Text
	enum, ok := s.place(name, c).consts[name]
	if !ok {
		return api.Value{}, false
	}
	s.has["a member of a Const Enum"]++
	for _, x := range s.cases(enum) {
		if x.Name == s.l[n].Text {
			return caseValue(x), true
		}
	}
	panic("no member")
}

func (s *slowRun) cases(enum int) []api.Constant {
	l, _, _ := fold.Members(s.x, enum)
	return l
}

func caseValue(x api.Constant) api.Value {
	if x.IsText {
		return api.Value{Kind: api.VString, Text: x.Text}
	}
	return api.Value{Kind: api.VNumber, Num: x.Num}
}

func (s *slowRun) enum(n int, c where) {
	if s.isConst(n) {
		s.has["a Const Enum"]++
		return
	}
	s.has["an Enum"]++
	o := s.lay(api.CObject, -1)
	for _, x := range s.cases(n) {
		s.fault(s.h.Set(o, x.Name, caseValue(x)))
	}
	c.scope.names[s.l[n].Text] = &o
}

func (s *slowRun) namespace(n int, c where) api.Value {
	defer s.more()()
	s.has["a Namespace"]++
	c = s.within(c, s.kids(n))
	for _, x := range s.done(s.kids(n)) {
		s.statement(x, c)
	}
	o := s.lay(api.CObject, -1)
	for _, x := range s.kids(n) {
		if !s.isOf(x, api.Export) {
			continue
		}
		kid := s.kids(x)[0]
		if s.isOf(kid, api.Interface, api.Alias) {
			continue
		}
		s.has["exported"]++
		s.fault(s.h.Set(o, s.l[kid].Text, s.read(s.l[kid].Text, c)))
	}
	return o
}

// keeps tells whether a Block is that of a Ctor.
func (s *slowRun) keeps(block int) bool { return block > 0 && s.isOf(s.up[block], api.Ctor) }

// isBased tells whether the class of such a Block has a Base.
func (s *slowRun) isBased(block int) bool {
	class := s.up[s.up[s.up[block]]]
	return s.isOf(s.kids(class)[1], api.Base)
}

// keep sets the Params that are Public or Readonly.
func (s *slowRun) keep(block int, c where) {
	params := s.kids(s.up[block])[0]
	for _, p := range s.kids(params) {
		switch s.l[p].Num {
		case 0, api.Optional:
			continue
		}
		s.has["kept"]++
		s.fault(s.h.Set(c.this, s.l[p].Text, s.read(s.l[p].Text, c)))
	}
}
