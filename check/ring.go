package check

import "shuck/api"

// findRings finds which Aliases, and which Interfaces, lead to themselves again. (A Class extends Classes alone, and by chapter 7 none of these leads back.)
func (c *checker) findRings() {
	var all []int
	next := map[int][]int{}
	for n, node := range c.nodes {
		switch node.Kind {
		case api.Alias, api.Interface:
			all = append(all, n)
		case api.TypeName:
			from, to := c.leader(n), c.standsFor(n)
			if from != nowhere && to != nowhere && c.kind(from) == c.kind(to) {
				next[from] = append(next[from], to)
			}
		}
	}
	c.ring = rings(all, func(n int) []int { return next[n] })
}

// leader is what a TypeName leads on from: the Alias that it stands beneath, or the Interface that it has extend something.
func (c *checker) leader(n int) int {
	above := c.parents[c.parents[n]]
	if c.kind(above) == api.Interface && c.parents[n] == c.kid(above, 1) {
		return above
	}
	return c.regions[n].alias
}

// isRound tells whether a TypeName stands for what leads to where it leads on from.
func (c *checker) isRound(n int) bool {
	from, to := c.leader(n), c.standsFor(n)
	return from != nowhere && to != nowhere && c.kind(from) == c.kind(to) && c.ring[from] == c.ring[to]
}

// rings gives nodes numbers, two of them the same one just if each leads to the other.
func rings(all []int, next func(n int) []int) map[int]int {
	ring := map[int]int{}
	begun := map[int]int{} // how many were begun ahead of it
	var underWay []int     // those that are begun and have no ring yet
	var visit func(n int) int
	// visit is the first of those under way that a node leads to.
	visit = func(n int) int {
		at := len(begun)
		begun[n] = at
		bottom := len(underWay)
		underWay = append(underWay, n)
		first := at
		for _, to := range next(n) {
			if _, done := ring[to]; done {
				continue
			}
			if since, ok := begun[to]; ok {
				first = min(first, since)
			} else {
				first = min(first, visit(to))
			}
		}
		if first == at {
			for _, member := range underWay[bottom:] {
				ring[member] = n
			}
			underWay = underWay[:bottom]
		}
		return first
	}
	for _, n := range all {
		if _, ok := begun[n]; !ok {
			visit(n)
		}
	}
	return ring
}
