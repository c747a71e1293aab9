package parse_test

import (
	"math/rand/v2"
	"strings"
	"testing"

	"shuck/api"
	"shuck/lex"
)

// agree holds what a call answers against all ways through the grammar, and is whether the text is taken.
func agree(t *testing.T, g map[string]*part, r reading, text string) bool {
	t.Helper()
	x, at, e := r.call([]byte(text))
	tokens, wantAt, want := lex.Tokens([]byte(text))
	if want == api.OK {
		if deep, n := lex.Depth(tokens, api.MaxDepth); deep > api.MaxDepth {
			wantAt, want = tokens[n].At, api.ErrDeep
		}
	}
	if want != api.OK {
		if e != want || at != wantAt || x.Nodes != nil {
			t.Errorf("%s(%q): %d, %v, want %d, %v", r.word, text, at, e, wantAt, want)
		}
		return false
	}
	l := trees(g, r.word, tokens)
	switch {
	case len(l) > 1:
		t.Errorf("%s(%q) has %d trees", r.word, text, len(l))
	case len(l) == 0:
		if e != api.ErrSyntax || at < 0 || at > len(text) || x.Nodes != nil {
			t.Errorf("%s(%q): %d, %v, want ErrSyntax", r.word, text, at, e)
		}
	case e != api.OK || at != 0:
		t.Errorf("%s(%q): %d, %v, want %s", r.word, text, at, e, told(l[0], 0))
	case !sameTree(x, l[0]):
		t.Errorf("%s(%q):\n%s %v, want\n%s %v", r.word, text, told(x, 0), x, told(l[0], 0), l[0])
	default:
		follows(t, text, x)
	}
	return len(l) == 1
}

// maker makes texts of the grammar by chance.
type maker struct {
	grammar map[string]*part
	chance  func(n int) int
	heights map[*part]int
	left    int // how many parts may be gone through until each way that is taken is the shortest
}

func newMaker(g map[string]*part, chance func(n int) int) *maker {
	m := &maker{grammar: g, chance: chance, heights: map[*part]int{}}
	for range 40 {
		for _, x := range g {
			m.measure(x)
		}
	}
	return m
}

// measure is how many rules must be gone through within a part at least, as far as is known.
func (m *maker) measure(x *part) int {
	const unknown = 1000
	h := 0
	for i, y := range x.parts {
		switch n := m.measure(y); {
		case x.op == "or" && i == 0:
			h = n
		case x.op == "or":
			h = min(h, n)
		case x.op != "many":
			h = max(h, n)
		}
	}
	if x.op == "rule" {
		h = unknown
		if n, ok := m.heights[m.grammar[x.text]]; ok {
			h = n + 1
		}
	}
	m.heights[x] = min(h, unknown)
	return m.heights[x]
}

// text is the tokens of a text of a rule, the longer the greater a number is.
func (m *maker) text(name string, number int) []string {
	m.left = number
	return m.make(rule(name))
}

func (m *maker) make(x *part) []string {
	m.left--
	var l []string
	switch x.op {
	case "sign", "spoken":
		return []string{x.text}
	case "angle":
		return []string{">"}
	case "token":
		return m.token(x.kind)
	case "rule":
		return m.make(m.grammar[x.text])
	case "or":
		return m.make(m.choose(x.parts))
	case "many":
		for m.left > 0 && m.chance(6) == 0 {
			l = append(l, m.make(x.parts[0])...)
		}
		return l
	}
	for _, y := range x.parts {
		l = append(l, m.make(y)...)
	}
	return l
}

func (m *maker) choose(l []*part) *part {
	if m.left > 0 {
		return l[m.chance(len(l))]
	}
	best := l[0]
	for _, x := range l {
		if m.heights[x] < m.heights[best] {
			best = x
		}
	}
	return best
}

func (m *maker) token(kind int) []string {
	of := map[int][]string{
		api.TokName:   {"a", "b", "c", "x1", "A", "number"},
		api.TokNumber: {"0", "1", "42", "9007199254740991"},
		api.TokString: {`""`, `"in"`, "'as'", `"("`, "'é\\n'"},
		api.TokWhole:  {"``", "`in`", "`a\n$`"},
		api.TokHead:   {"`${", "`(${"},
		api.TokMiddle: {"}${", "}=>${"},
		api.TokTail:   {"}`", "})`"},
		api.TokEnd:    {""},
	}[kind]
	return []string{of[m.chance(len(of))]}
}

// spoil changes a token or two.
func (m *maker) spoil(l []string) []string {
	all := strings.Fields(vocabulary)
	l = append([]string{}, l...)
	for range 1 + m.chance(2) {
		i := m.chance(len(l) + 1)
		other := all[m.chance(len(all))]
		switch {
		case i == len(l) || m.chance(4) == 0:
			l = append(l[:i], append([]string{other}, l[i:]...)...)
		case m.chance(3) == 0:
			l = append(l[:i], l[i+1:]...)
		case m.chance(2) == 0:
			l[i] = other
		default:
			j := m.chance(len(l))
			l[i], l[j] = l[j], l[i]
		}
	}
	return l
}

// vocabulary is every word, every sign, and what else a text may have.
const vocabulary = "break catch class const constructor continue else enum export extends false finally for function if implements in interface let namespace new null of public readonly return super this throw true try type typeof undefined while as " +
	"{ } ( ) [ ] . , ; : ? => = += -= *= %= === !== + - * % ! ~ < <= > >= << >> >>> && & || | ^ " +
	"a b c 0 1 'in' `` `${ }${ }`"

// joined lays blanks or remarks between tokens, and now and then nothing.
func (m *maker) joined(l []string) string {
	var b strings.Builder
	for _, s := range l {
		b.WriteString(s)
		blanks := []string{" ", " ", "\n", "\t", "/**/", " // x\n", "", ""}
		b.WriteString(blanks[m.chance(len(blanks))])
	}
	return b.String()
}

// P4.1 to P4.5: texts of the grammar, and what is nearly one.
func TestByChance(t *testing.T) {
	for seed := range uint64(4) {
		for _, r := range []reading{program(), expr(), typ()} {
			t.Run(r.word, func(t *testing.T) {
				t.Parallel()
				g := grammar()
				m := newMaker(g, rand.New(rand.NewPCG(seed, 4)).IntN)
				const tries = 1500
				taken := 0
				for i := range tries {
					l := m.text(r.word, i%600)
					if r.word == "Program" {
						l = append(m.text("Stmt", i%400), m.text("Stmt", i%300)...)
					}
					if agree(t, g, r, m.joined(l)) {
						taken++
					}
					agree(t, g, r, m.joined(m.spoil(l)))
				}
				if taken < tries/3 {
					t.Errorf("only %d texts are taken", taken)
				}
			})
		}
	}
}

// P4.1 to P4.3: every short text over the tokens that tell one thing from another.
func TestEveryShortText(t *testing.T) {
	for _, c := range []struct {
		r      reading
		tokens string
		most   int
	}{
		{expr(), vocabulary, 2},
		{typ(), vocabulary, 2},
		{program(), vocabulary, 2},
		{expr(), "a ( ) < > =>", 6},
		{expr(), "a < > >> ( )", 6},
		{expr(), "a ( ) ? : =>", 6},
		{expr(), "a . [ ] ! = - as |", 4},
		{expr(), "a { } , : =>", 5},
		{expr(), "a + * < && | in as", 5},
		{expr(), "`${ }${ }` a ``", 5},
		{expr(), "new super a . ( ) < >", 5},
		{typ(), "a | [ ] ( ) => : ?", 5},
		{typ(), "a . < > >> , -", 5},
		{typ(), "a { } : ; , ? ( )", 5},
		{program(), "a ; { } = let const enum", 5},
		{program(), "a ; { } , export namespace", 5},
	} {
		t.Run(c.r.word+" "+c.tokens, func(t *testing.T) {
			t.Parallel()
			g := grammar()
			everyText(strings.Fields(c.tokens), c.most, "", func(s string) { agree(t, g, c.r, s) })
		})
	}
}

// everyText goes through all texts of up to that many tokens.
func everyText(tokens []string, most int, begin string, do func(string)) {
	do(begin)
	if most == 0 {
		return
	}
	for _, s := range tokens {
		everyText(tokens, most-1, begin+s+" ", do)
	}
}
