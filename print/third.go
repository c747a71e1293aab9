package print

import "shuck/api"

// settled is the text that a way of printing makes, with the parentheses of the third reason.
func settled(nodes []api.Node, print func(*printer)) string {
	third := make([]bool, len(nodes))
anew:
	for {
		p := printer{nodes: nodes, third: third}
		print(&p)
		p.tokens = append(p.tokens, api.Token{Kind: api.TokEnd})
		types := newWalk(p.tokens)
		count, found := 0, false
		for i, t := range p.tokens {
			if !is(t, "<") {
				continue
			}
			// All that are found get their parentheses before the text is made anew, which is the same as one after the other. TypeArgs that are found lie one behind the other, and each Binary ends ahead of where its own ones end: so its parentheses leave those behind it as they are. Nor are there new ones: no types go through these parentheses, in which a `<` lacks its `>`.
			if n := p.less[count]; !third[n] && types.calls(i) {
				third[n] = true
				found = true
			}
			count++
		}
		if found {
			continue anew
		}
		return p.made.String()
	}
}
