package parse

import (
	"shuck/api"
	"shuck/lex"
)

// reader is tokens, how far they have been read, and the nodes that were made of them.
type reader struct {
	tokens []api.Token
	n      int        // the number of the token that stands next
	token  api.Token  // that token, or what is left of it where types ended within
	nodes  []api.Node // kids ahead of who has them: their Kids are numbers of this list
	levels [][]string // the signs of Binary, those that bind least first
	closes []int      // of each token that opens a bracket, which one closes it; 0: none
	// noCall marks each `<` that is known not to begin the TypeArgs of a call. Without it texts with many `<` would be tried again and again to their end.
	noCall []bool
}

func newReader(tokens []api.Token) *reader {
	return &reader{
		tokens: tokens,
		token:  tokens[0],
		levels: levels(),
		closes: closers(tokens),
		noCall: make([]bool, len(tokens)),
	}
}

// closers is, of each token that opens a bracket, the number of the one that closes it, whatever brackets the two are; 0: none does.
func closers(l []api.Token) []int {
	closes := make([]int, len(l))
	var open []int
	for i, t := range l {
		last := len(open) - 1
		switch {
		case t.Kind == api.TokHead, is(t, "("), is(t, "["), is(t, "{"):
			open = append(open, i)
		case last < 0:
		case t.Kind == api.TokTail, is(t, ")"), is(t, "]"), is(t, "}"):
			closes[open[last]] = i
			open = open[:last]
		}
	}
	return closes
}

// refusal is what a reader panics with at a token that does not fit.
type refusal struct{}

// attempt reads, and tells whether no token was refused meanwhile.
func attempt(read func()) (ok bool) {
	defer func() {
		thrown := recover()
		if _, refused := thrown.(refusal); thrown != nil && !refused {
			panic(thrown)
		}
	}()
	read()
	return true
}

// refuse gives up what is being read.
func (r *reader) refuse() { panic(refusal{}) }

// mark is the text of a sign or a reserved word; nothing of other tokens, as a string may say the same.
func mark(t api.Token) string {
	if t.Kind == api.TokSign || t.Kind == api.TokWord {
		return t.Text
	}
	return ""
}

func is(t api.Token, text string) bool { return mark(t) == text }

func (r *reader) is(text string) bool { return is(r.token, text) }

// behind is the token that stands a number of tokens further on, the end at most.
func (r *reader) behind(far int) api.Token { return r.tokens[min(r.n+far, len(r.tokens)-1)] }

// next takes the token that stands there.
func (r *reader) next() api.Token {
	taken := r.token
	r.token = r.behind(1)
	r.n++
	return taken
}

// take takes a sign or a word, if it stands there.
func (r *reader) take(text string) bool {
	if !r.is(text) {
		return false
	}
	r.next()
	return true
}

// want takes a sign or a word that must stand there.
func (r *reader) want(text string) {
	if !r.take(text) {
		r.refuse()
	}
}

// wantKind takes a token that must be of a kind.
func (r *reader) wantKind(kind int) api.Token {
	if r.token.Kind != kind {
		r.refuse()
	}
	return r.next()
}

func (r *reader) name() string { return r.wantKind(api.TokName).Text }

// wantAngle takes the `>` that ends types; of a longer sign only that.
func (r *reader) wantAngle() {
	if rest, ok := lex.Split(r.token); ok {
		r.token = rest
		return
	}
	r.want(">")
}

// toTheEnd reads one thing, behind which the text must end.
func (r *reader) toTheEnd(one func(*reader) int) int {
	root := one(r)
	if r.token.Kind != api.TokEnd {
		r.refuse()
	}
	return root
}

// put is the number of a new node with these kids.
func (r *reader) put(x api.Node, kids ...int) int {
	x.Kids = kids
	r.nodes = append(r.nodes, x)
	return len(r.nodes) - 1
}

func (r *reader) none() int { return r.put(api.Node{Kind: api.None}) }

func (r *reader) list(kids ...int) int { return r.put(api.Node{Kind: api.List}, kids...) }

// laidOut is the tree of a node, each node ahead of its kids.
func (r *reader) laidOut(root int) api.Tree {
	var t api.Tree
	r.lay(&t, root)
	return t
}

// lay puts a node and all beneath it behind a tree's nodes, and is its number there.
func (r *reader) lay(t *api.Tree, n int) int {
	x := r.nodes[n]
	at := len(t.Nodes)
	t.Nodes = append(t.Nodes, x)
	kids := make([]int, len(x.Kids))
	for i, kid := range x.Kids {
		kids[i] = r.lay(t, kid)
	}
	t.Nodes[at].Kids = kids
	return at
}
