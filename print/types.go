package print

import (
	"shuck/api"
	"shuck/lex"
)

// walk goes through types by chapter 4's grammar and its rules of looking ahead. (Chapter 4's Type refuses what is long or deep ahead of the grammar; rule 3 asks for the grammar alone.) What is open is kept in a list, not by functions that call each other: a row of signs `<` nests types deeper than any tree is.
type walk struct {
	tokens []api.Token // the end is the last one
	closes []int       // of each token that opens a bracket, the number of the one that closes it; 0: none
	n      int         // the number of the token that stands next
	token  api.Token   // that token, or what is left of it where types ended within
	open   []bracket   // the innermost one is the last
	tried  []bool      // of each token, whether it is a `<` whose types were gone through as far as they go
	called []bool      // of each of these, whether they ended, with a `(` behind
}

// bracket is one that is open, and the number of the token that opened it.
type bracket struct{ kind, at int }

// Kinds of brackets.
const (
	angles       = iota // of TypeArgs
	group               // about a type
	params              // of a function's type
	methodParams        // of an object's method
	object
)

func newWalk(tokens []api.Token) *walk {
	return &walk{
		tokens: tokens,
		closes: closers(tokens),
		tried:  make([]bool, len(tokens)),
		called: make([]bool, len(tokens)),
	}
}

// closers is, of each token that opens a bracket, the number of the one that closes it, whatever brackets the two are; 0: none does.
func closers(tokens []api.Token) []int {
	closes := make([]int, len(tokens))
	var open []int
	for i, t := range tokens {
		last := len(open) - 1
		switch {
		case t.Kind == api.TokHead, is(t, "("), is(t, "["), is(t, "{"):
			open = append(open, i)
		case last < 0:
		case t.Kind == api.TokTail, is(t, ")"), is(t, "]"), is(t, "}"):
			closes[open[last]] = i
			open = open[:last]
		}
	}
	return closes
}

// is tells whether a token is a sign or a reserved word; a string that says the same is not.
func is(t api.Token, text string) bool {
	return (t.Kind == api.TokSign || t.Kind == api.TokWord) && t.Text == text
}

// calls tells whether the `<` of a number begins the TypeArgs of a call, by chapter 4's rule 3.
func (w *walk) calls(less int) bool {
	// Each `<` that was come by is settled. Else rows of them would be gone through again and again to their end.
	if !w.tried[less] {
		w.from(less)
	}
	return w.called[less]
}

// from goes through TypeArgs to their end, or to the first token that does not fit.
func (w *walk) from(less int) {
	w.n, w.token, w.open = less, w.tokens[less], w.open[:0]
	next := w.typeArgs()
	for next != nil && len(w.open) > 0 {
		next = next(w)
	}
}

// state goes through some tokens, and is followed by the state for those behind; nil, if a token does not fit.
type state func(*walk) state

func (w *walk) is(text string) bool { return is(w.token, text) }

// next takes the token that stands there, which is not the end.
func (w *walk) next() {
	w.n++
	w.token = w.tokens[w.n]
}

// take takes a sign or a word, if it stands there.
func (w *walk) take(text string) bool {
	if !w.is(text) {
		return false
	}
	w.next()
	return true
}

// takeKind takes a token of a kind, if it stands there.
func (w *walk) takeKind(kind int) bool {
	if w.token.Kind != kind {
		return false
	}
	w.next()
	return true
}

// takeAngle takes a `>`, if it stands there; of a longer sign only that.
func (w *walk) takeAngle() bool {
	if rest, ok := lex.Split(w.token); ok {
		w.token = rest
		return true
	}
	return w.take(">")
}

// enter takes the token that opens a bracket.
func (w *walk) enter(kind int, within state) state {
	w.open = append(w.open, bracket{kind, w.n})
	w.next()
	return within
}

// leave closes the innermost bracket.
func (w *walk) leave(behind state) state {
	w.open = w.open[:len(w.open)-1]
	return behind
}

func (w *walk) typeArgs() state {
	w.tried[w.n] = true
	return w.enter(angles, (*walk).anyType)
}

func (w *walk) anyType() state {
	w.take("|")
	return (*walk).plainType
}

func (w *walk) plainType() state {
	switch {
	case w.paramsAhead():
		return w.enter(params, (*walk).firstParam)
	case w.is("("):
		return w.enter(group, (*walk).anyType)
	case w.is("{"):
		return w.enter(object, (*walk).piece)
	case w.take("-"):
		if !w.takeKind(api.TokNumber) {
			return nil
		}
		return (*walk).behindPlain
	case w.take("null"), w.take("undefined"), w.take("true"), w.take("false"), w.takeKind(api.TokNumber), w.takeKind(api.TokString):
		return (*walk).behindPlain
	}
	return (*walk).typeName
}

// paramsAhead tells whether a `(` begins Params: `=>` stands behind what closes it.
func (w *walk) paramsAhead() bool {
	if !w.is("(") || w.closes[w.n] == 0 {
		return false
	}
	return is(w.tokens[w.closes[w.n]+1], "=>")
}

func (w *walk) typeName() state {
	switch {
	case !w.takeKind(api.TokName):
		return nil
	case w.take("."):
		return (*walk).typeName
	case w.is("<"):
		return w.typeArgs()
	}
	return (*walk).behindPlain
}

func (w *walk) behindPlain() state {
	switch {
	case w.take("["):
		if !w.take("]") {
			return nil
		}
		return (*walk).behindPlain
	case w.take("|"):
		return (*walk).plainType
	}
	return (*walk).behindType
}

// behindType goes on as the innermost bracket has it.
func (w *walk) behindType() state {
	inner := w.open[len(w.open)-1]
	switch inner.kind {
	case angles:
		return w.behindArg(inner.at)
	case group:
		if w.take(")") {
			return w.leave((*walk).behindPlain)
		}
	case params:
		return w.behindParam("=>")
	case methodParams:
		return w.behindParam(":")
	case object:
		if w.take(",") || w.take(";") {
			return (*walk).piece
		}
		if w.take("}") {
			return w.leave((*walk).behindPlain)
		}
	}
	return nil
}

// behindArg goes on behind one of the TypeArgs that the `<` of a number begins.
func (w *walk) behindArg(less int) state {
	if w.take(",") {
		return (*walk).anyType
	}
	if !w.takeAngle() {
		return nil
	}
	w.called[less] = w.is("(")
	return w.leave((*walk).behindPlain)
}

// behindParam goes on behind a Param; between is what stands between Params and the type of what is answered.
func (w *walk) behindParam(between string) state {
	if w.take(",") {
		return (*walk).param
	}
	if !w.take(")") || !w.take(between) {
		return nil
	}
	return w.leave((*walk).anyType)
}

func (w *walk) firstParam() state {
	if w.is(")") {
		return (*walk).behindType
	}
	return (*walk).param
}

func (w *walk) param() state {
	if !w.takeKind(api.TokName) {
		return nil
	}
	w.take("?")
	if w.take(":") {
		return (*walk).anyType
	}
	return (*walk).behindType
}

func (w *walk) piece() state {
	switch {
	case w.is("}"):
		return (*walk).behindType
	case !w.takeKind(api.TokName):
		return nil
	case w.is("("):
		return w.enter(methodParams, (*walk).firstParam)
	}
	w.take("?")
	if !w.take(":") {
		return nil
	}
	return (*walk).anyType
}
