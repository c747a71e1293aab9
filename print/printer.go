package print

import (
	"strings"

	"shuck/api"
	"shuck/lex"
	"shuck/text"
)

// printer makes the text of a plain tree, and keeps how deep the statement stands that is being printed.
type printer struct {
	nodes  []api.Node
	third  []bool // of each node, whether it has parentheses for the third reason
	depth  int
	made   strings.Builder
	tokens []api.Token // of what was made: their kinds, and which signs and words they are
	less   []int       // the Binaries with the sign `<`, in the order of the text
}

// lay puts some of the text: whole tokens, and blanks about them. Chapter 2 tells them one piece at a time, since the whole may be longer than it takes; and by a brief text of the same kinds, signs and words, since a name or a string may be so by itself. Ahead is what it must have read to tell them.
func (p *printer) lay(piece, brief, ahead string) {
	p.made.WriteString(piece)
	for t := range lex.Scan([]byte(ahead + brief)) {
		if t.At >= len(ahead) && t.Kind != api.TokEnd {
			p.tokens = append(p.tokens, t)
		}
	}
}

// put puts signs, words, numbers, and blanks about them.
func (p *printer) put(piece string) { p.lay(piece, piece, "") }

func (p *printer) putName(name string) { p.lay(name, "a", "") }

func (p *printer) putString(s string) { p.lay(text.Quote(s), `""`, "") }

func (p *printer) putBlanks(count int) { p.lay(strings.Repeat(" ", count), "", "") }

func (p *printer) program() { p.statements(p.nodes[0].Kids) }

func (p *printer) expression() { p.item(0) }

// row puts several with `, ` between each two.
func (p *printer) row(kids []int, one func(kid int)) {
	for i, kid := range kids {
		if i > 0 {
			p.put(", ")
		}
		one(kid)
	}
}

// item puts what may stand there without parentheses, whatever it is.
func (p *printer) item(n int) { p.expr(n, anyLevel, false) }

// name puts a node's name.
func (p *printer) name(n int) { p.putName(p.nodes[n].Text) }

// isNone tells whether nothing stands in a place.
func (p *printer) isNone(n int) bool { return p.nodes[n].Kind == api.None }
