package print

import (
	"strings"

	"shuck/api"
)

// printer makes the text of a plain tree, and keeps how deep the statement stands that is being printed.
type printer struct {
	nodes  []api.Node
	third  []bool // of each node, whether it has parentheses for the third reason
	depth  int
	pieces []piece
	less   []int // the Binaries with the sign `<`, in the order of the text
}

// piece is some of the text: whole tokens, and blanks about them.
type piece struct {
	text  string
	ahead string // what chapter 2 must have read to tell its tokens
}

func (p *printer) put(text string) { p.pieces = append(p.pieces, piece{text: text}) }

// text is all that has been put.
func (p *printer) text() string {
	// Not strings.Join: of one piece that is the piece itself, which may be a node's Text.
	var b strings.Builder
	for _, x := range p.pieces {
		b.WriteString(x.text)
	}
	return b.String()
}

func (p *printer) program() { p.statements(p.nodes[0].Kids) }

func (p *printer) expression() { p.item(0) }

// row puts several with `, ` between each two.
func (p *printer) row(kids []int, one func(kid int)) {
	for i, kid := range kids {
		if i > 0 {
			p.put(", ")
		}
		one(kid)
	}
}

// item puts what may stand there without parentheses, whatever it is.
func (p *printer) item(n int) { p.expr(n, anyLevel, false) }

// name puts a node's name, or what else it has for Text.
func (p *printer) name(n int) { p.put(p.nodes[n].Text) }

// isNone tells whether nothing stands in a place.
func (p *printer) isNone(n int) bool { return p.nodes[n].Kind == api.None }
