package check

import "shuck/api"

// scope is a part of the program into which names are laid, within an outer one.
type scope struct {
	outer *scope
	names map[string]int // the declarations' numbers; nil, as long as there is none
}

// within is the scope of a part of this one.
func (s *scope) within() *scope { return &scope{outer: s} }

// lay lays a name, unless it is there: the first one counts.
func (s *scope) lay(name string, n int) bool {
	if _, twice := s.names[name]; twice {
		return false
	}
	if s.names == nil {
		s.names = map[string]int{}
	}
	s.names[name] = n
	return true
}

// find is the declaration of a name in the innermost scope that has one.
func (s *scope) find(name string) int {
	for ; s != nil; s = s.outer {
		if n, ok := s.names[name]; ok {
			return n
		}
	}
	return nowhere
}

// region is the scopes, of values and of types, of what stands in a node.
type region struct {
	values, types *scope
	alias         int // the Alias that it stands beneath
	end           int // the number behind the last node
}

// surveyor goes through the nodes in order, and keeps the regions that the present one stands in.
type surveyor struct {
	*checker
	open []region
	made []*scope // each behind those that it is within
}

// declareAll lays the names of all declarations, and notes of each TypeName the region that it stands in.
func (c *checker) declareAll() {
	s := &surveyor{checker: c}
	s.open = []region{{values: &scope{}, types: &scope{}, alias: nowhere, end: len(c.nodes)}}
	for n, node := range c.nodes {
		s.leave(n)
		if s.isOwnBlock(n) {
			s.enter(c.parents[n])
			s.layValue(c.parents[n])
		}
		s.declare(n, node.Kind)
		if isScope(node.Kind) {
			s.enter(n)
		}
		switch node.Kind {
		case api.Catch:
			s.layValue(n)
		case api.TypeName:
			c.regions[n] = *s.present()
		}
	}
	s.leaveOut()
}

// isScope tells whether a kind has a scope that begins with it. (A ForOf's begins with its Block.)
func isScope(kind int) bool {
	switch kind {
	case api.Program, api.Block, api.Func, api.Method, api.Ctor, api.Arrow, api.Catch, api.For, api.Namespace, api.Class, api.Interface, api.Alias:
		return true
	}
	return false
}

// isOwnBlock tells whether a node is the Block of a ForOf.
func (s *surveyor) isOwnBlock(n int) bool {
	return s.kind(n) == api.Block && s.kind(s.parents[n]) == api.ForOf
}

func (s *surveyor) present() *region { return &s.open[len(s.open)-1] }

func (s *surveyor) leave(n int) {
	for s.present().end <= n {
		s.open = s.open[:len(s.open)-1]
	}
}

func (s *surveyor) enter(n int) {
	r := *s.present()
	r.values, r.types, r.end = r.values.within(), r.types.within(), s.ends[n]
	if s.kind(n) == api.Alias {
		r.alias = n
	}
	s.open = append(s.open, r)
	s.made = append(s.made, r.values, r.types)
}

// declare lays a node's name into the present scopes, if it is a declaration there.
func (s *surveyor) declare(n, kind int) {
	switch kind {
	case api.Var, api.Func, api.Namespace:
		s.layValue(n)
	case api.Param:
		if s.kind(s.parents[s.parents[n]]) != api.TypeFunc {
			s.layValue(n)
		}
	case api.Class, api.Enum:
		s.layValue(n)
		s.layType(n)
	case api.Interface, api.Alias, api.TypeParam:
		s.layType(n)
	}
}

// layValue lays the name of a value; chapter 7 sees to it that it is the only one.
func (s *surveyor) layValue(n int) { s.present().values.lay(s.nodes[n].Text, n) }

func (s *surveyor) layType(n int) {
	if !s.present().types.lay(s.nodes[n].Text, n) {
		s.offend(n)
	}
}

// leaveOut has scopes without a name left out: there may be many of them about a name that is looked up.
func (s *surveyor) leaveOut() {
	for _, x := range s.made {
		if x.outer != nil && len(x.outer.names) == 0 {
			x.outer = x.outer.outer
		}
	}
}
