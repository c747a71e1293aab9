package machine

import "shuck/api"

// area is a scope of chapter 7 as it stands in a tree.
type area struct {
	outer *area
	depth int   // of the scope that is entered for it
	names int   // how many it lays
	funcs []int // the Funcs among what it declares
}

// place is where a declaration's variable lies.
type place struct {
	area *area
	slot int
}

// plan is the areas of a program.
type plan struct {
	nodes  []api.Node
	within []*area // of each node, in which area it stands
	opened []*area // of a node that opens one, that one
	areas  []*area // those that stand about others first
	laid   []place // of each declaration
}

func planned(nodes []api.Node) *plan {
	p := &plan{
		nodes:  nodes,
		within: make([]*area, len(nodes)),
		opened: make([]*area, len(nodes)),
		laid:   make([]place, len(nodes)),
	}
	p.within[0] = &area{names: inputAt + 1}
	for n := range nodes {
		p.look(n)
	}
	// How deep a scope is, is known when all names are: areas without names are not entered.
	for _, a := range p.areas {
		a.depth = a.outer.depth
		if a.names > 0 {
			a.depth++
		}
	}
	return p
}

// look looks at a node: it stands ahead of all that stands beneath it. What stands beneath a node for types stands in no area: the Params there are no variables.
func (p *plan) look(n int) {
	node := p.nodes[n]
	about := p.within[n]
	if about == nil || forTypes(node.Kind) {
		return
	}
	inner := about
	switch node.Kind {
	case api.Func:
		about.funcs = append(about.funcs, n)
		fallthrough
	case api.Var, api.Class, api.Enum, api.Namespace, api.Param:
		p.laid[n] = about.lay()
	}
	if opens(node.Kind) {
		inner = &area{outer: about}
		p.opened[n] = inner
		p.areas = append(p.areas, inner)
	}
	for _, kid := range node.Kids {
		p.within[kid] = inner
	}
	switch node.Kind {
	case api.ForOf:
		p.within[node.Kids[0]] = about
		fallthrough
	case api.Catch:
		p.laid[n] = inner.lay()
	}
}

func (a *area) lay() place {
	a.names++
	return place{a, a.names - 1}
}

// opens tells whether a node of that kind is a scope.
func opens(kind int) bool {
	switch kind {
	case api.Program, api.Namespace, api.Block, api.Func, api.Method, api.Ctor, api.Arrow, api.Catch, api.For, api.ForOf:
		return true
	}
	return false
}

// forTypes tells whether nothing beneath a node of that kind is done at run time.
func forTypes(kind int) bool {
	return kind == api.Interface || kind == api.Alias || kind >= api.TypeName
}
