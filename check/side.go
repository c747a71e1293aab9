package check

// side is what an outlook has seen of the types on one side of its meetings.
type side struct {
	given   map[int][]term       // of each parameter, what may stand in its place
	waiting map[int][]func(term) // of each parameter, who is to be told of that
	known   map[gift]struct{}
	refs    map[int][]term // the references whose members were looked at, by their owners
	noted   map[term]struct{}
	sizes   map[int]int // of each parameter: nothing that stands in its place is larger
	sums    map[int]int // of each Class and each Interface: all that stands in the place of its parameters together is not larger
	grown   []int       // the Classes and Interfaces of which these have changed
}

// gift is what stands in the place of a parameter.
type gift struct {
	v int
	t term
}

func newSide() *side {
	return &side{
		given:   map[int][]term{},
		waiting: map[int][]func(term){},
		known:   map[gift]struct{}{},
		refs:    map[int][]term{},
		noted:   map[term]struct{}{},
		sizes:   map[int]int{},
		sums:    map[int]int{},
	}
}

// give has a term stand in the place of a parameter.
func (s *side) give(v int, t term) {
	g := gift{v, t}
	if _, ok := s.known[g]; ok {
		return
	}
	s.known[g] = struct{}{}
	s.given[v] = append(s.given[v], t)
	for _, hand := range s.waiting[v] {
		hand(t)
	}
}

// each hands on what stands in the place of a parameter, now or later.
func (s *side) each(v int, hand func(term)) {
	s.waiting[v] = append(s.waiting[v], hand)
	for _, t := range s.given[v] {
		hand(t)
	}
}

// note tells whether a reference is a new one.
func (s *side) note(t term) bool {
	if _, ok := s.noted[t]; ok {
		return false
	}
	s.noted[t] = struct{}{}
	s.refs[t.owner] = append(s.refs[t.owner], t)
	return true
}

// raised has a number be no less than another, and tells whether it was.
func raised(sizes map[int]int, of, least int) bool {
	if sizes[of] >= least {
		return false
	}
	sizes[of] = least
	return true
}
