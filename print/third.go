package print

import (
	"shuck/api"
	"shuck/lex"
	"shuck/parse"
)

// settled is the text that a way of printing makes, with the parentheses of the third reason.
func settled(nodes []api.Node, print func(*printer)) string {
	third := make([]bool, len(nodes))
anew:
	for {
		p := printer{nodes: nodes, third: third}
		print(&p)
		text, found := p.text(), false
		var a angles
		for _, t := range p.tokens() {
			// All that are found get their parentheses before the text is made anew, since which they are does not hang on those of another: TypeArgs stay within the brackets that their sign stands in, behind which the `)` of a Binary ahead stands; and they go through no parentheses of this reason, in which a `<` lacks its `>`.
			if less, ok := a.called(t); ok && isTypeArgs(text[less.at:less.end]) {
				third[p.less[less.number]] = true
				found = true
			}
			if found && t.Kind == api.TokEnd {
				continue anew
			}
			a.take(t)
		}
		return text
	}
}

// isTypeArgs tells whether a text that begins with `<` is TypeArgs.
func isTypeArgs(text string) bool {
	_, _, e := parse.Type([]byte("A" + text))
	return e == api.OK
}

// tokens is the tokens of the text. Chapter 2 gets it piece by piece, since as a whole it may be longer than chapter 2 takes. (Of a piece that is too long by itself it tells a token without a kind: that is no sign, and neither is the piece.)
func (p *printer) tokens() []api.Token {
	var all []api.Token
	at := 0
	for _, x := range p.pieces {
		begin := at - len(x.ahead)
		for t := range lex.Scan([]byte(x.ahead + x.text)) {
			if t.At < len(x.ahead) || t.Kind == api.TokEnd {
				continue
			}
			t.At += begin
			t.End += begin
			all = append(all, t)
		}
		at += len(x.text)
	}
	return append(all, api.Token{Kind: api.TokEnd, At: at, End: at})
}

// angle is a sign `<`: the how manieth of the text, where it stands, and where the `>` ends that goes with it.
type angle struct {
	number, at, end int
}

// angles keeps, as tokens come, the signs `<` that no `>` goes with yet, the last one innermost. (Brackets are not looked at: in types each `<` has its `>`, and what else is found is seen not to be types.)
type angles struct {
	open  []angle
	count int   // of all signs `<` so far
	last  angle // the one whose `>` the token ahead ends with, if its end is not 0
	call  int   // where the last `(` stands that came behind such a `>`
}

// called is the sign from which on there could be the types of a call, whose `(` is this token.
func (a *angles) called(t api.Token) (angle, bool) {
	if a.last.end == 0 || t.Kind != api.TokSign || t.Text != "(" {
		return angle{}, false
	}
	// No types have such a `(` in them. (If many stand one in the other, to read each as types would take long.)
	ok := a.last.at > a.call
	a.call = t.At
	return a.last, ok
}

// take goes on behind a token.
func (a *angles) take(t api.Token) {
	a.last = angle{}
	if t.Kind != api.TokSign {
		return
	}
	switch t.Text {
	case "<":
		a.open = append(a.open, angle{number: a.count, at: t.At})
		a.count++
	case ">", ">>", ">>>":
		for range t.Text {
			a.last = a.pop(t.End)
		}
	}
}

// pop is the innermost sign, with the end of its `>`; it is open no more.
func (a *angles) pop(end int) angle {
	n := len(a.open) - 1
	if n < 0 {
		return angle{}
	}
	less := a.open[n]
	less.end = end
	a.open = a.open[:n]
	return less
}
