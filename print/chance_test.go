package print_test

import (
	"math/rand/v2"
	"slices"
	"strconv"
	"strings"
	"testing"

	"shuck/api"
	"shuck/core"
	"shuck/tree"
)

// row is what a plain node may have: texts and numbers to choose from, and a word for each kid's place; with / between: one of them; [x] is a List of x; * behind it: any number of these; + between: one behind the other.
type row struct{ texts, nums, kids string }

func rows() map[string]row {
	return map[string]row{
		"-": {}, "L": {"", "", "E*"}, "Program": {"", "", "S*"},
		"Num": {"", "0 7 9007199254740991", ""}, "True": {}, "False": {}, "Null": {}, "Undefined": {}, "This": {},
		"Str": {"a é < > ( } ` $ ${ \" \\ \\\" \n \x00", "", ""}, "Name": {"a b c $", "", ""},
		"Template": {"", "", "Str E+Str*"}, "Array": {"", "", "E*"}, "Object": {"", "", "Prop*"}, "Prop": {"p q", "", "E"},
		"Arrow": {"", "", "[] [Param] Block/E/E"}, "Unary": {"! - ~ typeof", "", "E"}, "Binary": {binarySigns, "", "E E"}, "Cond": {"", "", "E E E"},
		"Assign": {"= += -= *= %=", "", "Name/Member/Index E"}, "Call": {"", "", "E [] [E]"}, "New": {"", "", "Name/Path [] [E]"},
		"Member": {"p q", "", "E"}, "Index": {"", "", "E E"}, "Super": {"", "", "[E]"}, "SuperMember": {"p q", "", ""},
		"Var": {"a b", "0 1", "- E"}, "Func": {"f g", "", "[] [Param] - Block"}, "Class": {"C D", "", "[] Base/- [] [Field/Method]"},
		"Base": {"C D", "", "[]"}, "Field": {"p q", "", "- E"}, "Method": {"p q", "", "[] [Param] - Block"}, "Ctor": {"", "", "[Param] Block"},
		"If": {"", "", "E Block Block/If/-"}, "While": {"", "", "E Block"}, "For": {"", "", "Begin/- E/- E/- Block"}, "ForOf": {"a b", "0 1", "E Block"},
		"Return": {"", "", "E/-"}, "Break": {}, "Continue": {}, "Throw": {"", "", "E"}, "Try": {"", "", "Block Catch Block/-"}, "Catch": {"a b", "", "Block"},
		"Block": {"", "", "S*"}, "Eval": {"", "", "E"}, "Empty": {}, "Param": {"a b", "", "-"},
	}
}

const (
	leaves      = "Num Str True False Null Undefined Name This SuperMember"
	branches    = " Template Array Object Arrow Unary Binary Binary Cond Assign Call New Member Index Super"
	expressions = leaves + branches + branches + branches
	statements  = "Var Func Class If While For ForOf Return Break Continue Throw Try Block Eval Empty"
)

// grower makes plain trees by numbers that choose.
type grower struct {
	rows   map[string]row
	kinds  map[string]int
	choose func(n int) int // 0 to n - 1
	exprs  string          // to choose from
}

func newGrower(seed uint64) *grower {
	return &grower{rows(), kinds, rand.New(rand.NewPCG(seed, 6)).IntN, expressions}
}

// angled is a grower of what is like types: rows of operands with many signs `<` and `>` between.
func angled(seed uint64) *grower {
	g := newGrower(seed)
	g.exprs = "Chain"
	return g
}

// chain is a row of operands with signs between, as it is read if no sign begins TypeArgs.
func (g *grower) chain(deep int) api.Tree {
	operands := []api.Tree{g.operand(deep)}
	var signs []string
	for range g.choose(5) {
		sign, x := g.pick("< < < < < > > > >> >>> | + ==="), g.operand(deep)
		// What is read as a call is so seldom by chance alone.
		if len(signs) > 0 && g.choose(2) == 0 {
			sign = g.pick("> > > >> >>>")
			x = g.grow("Assign", deep)
		}
		signs = append(signs, sign)
		operands = append(operands, x)
	}
	return joined(operands, signs)
}

func (g *grower) operand(deep int) api.Tree {
	word := "Name"
	switch n := g.choose(10); {
	case n < 3:
		word = "Assign"
	case n == 3:
		word = g.pick("Num Str Null True")
	case n == 4:
		word = g.pick("Array Object")
	case n == 5 && deep > 0:
		word = g.pick("Arrow Arrow Object Member Index Call Array New Unary Cond Template Super")
	}
	return g.grow(word, deep)
}

// joined is the Binaries of a row of operands, each level standing to the left.
func joined(operands []api.Tree, signs []string) api.Tree {
	if len(signs) == 0 {
		return operands[0]
	}
	last := 0
	for i, sign := range signs {
		if levelsByKey()[sign] <= levelsByKey()[signs[last]] {
			last = i
		}
	}
	return tree.Make(api.Node{Kind: api.Binary, Text: signs[last]}, joined(operands[:last+1], signs[:last]), joined(operands[last+1:], signs[last+1:]))
}

func (g *grower) pick(words string) string {
	l := strings.Split(words, " ")
	return l[g.choose(len(l))]
}

// grow is a tree of a word, at most so deep, if what must stand beneath it lets it.
func (g *grower) grow(word string, deep int) api.Tree {
	r := g.rows[word]
	num, _ := strconv.Atoi(g.pick(r.nums))
	root := api.Node{Kind: g.kinds[word], Text: g.pick(r.texts), Num: num, At: g.choose(1000)}
	var kids []api.Tree
	for _, place := range strings.Fields(r.kids) {
		one, many := strings.CutSuffix(place, "*")
		if !many {
			kids = append(kids, g.fill(place, deep-1))
			continue
		}
		for range g.some(deep) {
			for _, x := range strings.Split(one, "+") {
				kids = append(kids, g.fill(x, deep-1))
			}
		}
	}
	return tree.Make(root, kids...)
}

// some is how many there are of what there may be any number of.
func (g *grower) some(deep int) int {
	if deep <= 0 {
		return 0
	}
	return g.choose(4)
}

// fill is a tree that a place takes.
func (g *grower) fill(place string, deep int) api.Tree {
	if within, ok := strings.CutPrefix(place, "["); ok {
		return g.list(strings.TrimSuffix(within, "]"), deep)
	}
	word := g.pick(strings.ReplaceAll(place, "/", " "))
	switch {
	case word == "E" && deep > 0:
		word = g.pick(g.exprs)
	case word == "E":
		word = g.pick("Num Str Null Name Name Array Object")
	case word == "S" && deep > 0:
		word = g.pick(statements)
	case word == "S":
		word = g.pick("Break Continue Empty Block")
	case word == "Path":
		return tree.Make(api.Node{Kind: api.Member, Text: "p"}, g.grow("Name", 0))
	case word == "Begin":
		return turned(g.grow("Var", deep), func(l []api.Node) { l[0].Num = api.Let })
	}
	if word == "Chain" {
		return g.chain(deep)
	}
	return g.grow(word, deep)
}

func (g *grower) list(one string, deep int) api.Tree {
	var kids []api.Tree
	if one != "" {
		for range g.some(deep) {
			kids = append(kids, g.fill(one, deep-1))
		}
	}
	if one == "Field/Method" && g.choose(2) == 0 {
		kids = slices.Insert(kids, g.choose(len(kids)+1), g.grow("Ctor", deep-1))
	}
	return tree.Make(api.Node{Kind: api.List}, kids...)
}

// agrees holds what is printed of a plain tree against the chapter's words, and against what follows; it is how many pairs of parentheses the text has, and how many of them for the third reason.
func agrees(t *testing.T, x api.Tree) (pairs, thirds int) {
	t.Helper()
	if n, e := core.Check(x); e != api.OK {
		t.Fatalf("not plain: %d, %v, %v", n, e, x)
	}
	p, other := program(), expr()
	if x.Nodes[0].Kind != api.Program {
		p, other = other, p
	}
	other.refuses(t, api.ErrCore, x)
	made, lacking := marked(x)
	p.fits(t, x, unmarked(made))
	pairs, thirds = strings.Count(made, opened)+strings.Count(made, lessOpened), len(lacking)
	texts := append(without(made, opened, closed), lacking...)
	// Of several pairs of the third reason a later one may part what an earlier one was laid for (see TestLessInOrder): then only the text in which the sign was found, which is among those that lack a pair, tells that it was needed.
	if thirds == 1 {
		texts = append(texts, without(made, lessOpened, lessClosed)...)
	}
	for _, less := range texts {
		if y, _, e := p.back([]byte(less)); e == api.OK && tree.Same(x, y) {
			t.Errorf("%q says the same as\n%q", less, unmarked(made))
		}
	}
	return pairs, thirds
}

// without is a marked text without each of the pairs of parentheses that have these marks.
func without(made, begin, end string) []string {
	var l []string
	var open []int
	for at := range len(made) {
		switch made[at : at+1] {
		case begin:
			open = append(open, at)
		case end:
			first := open[len(open)-1]
			open = open[:len(open)-1]
			l = append(l, unmarked(made[:first]+made[first+1:at]+made[at+1:]))
		}
	}
	return l
}

// P6.1, P6.3, P6.4: trees by chance of every kind: the text is that of the chapter's words, is read as the tree, and no pair of its parentheses can go.
func TestChance(t *testing.T) {
	g := newGrower(1)
	pairs := 0
	for n := range 4000 {
		for _, word := range []string{"Program", "E"} {
			n, _ := agrees(t, g.fill(word, 3+n%4))
			pairs += n
		}
		if t.Failed() {
			return
		}
	}
	if pairs < 3000 {
		t.Errorf("only %d pairs", pairs)
	}
}

// P6.1, P6.3, P6.4: trees by chance in which signs `<` are taken for TypeArgs.
func TestChanceAngled(t *testing.T) {
	g := angled(2)
	one, more := 0, 0
	for n := range 3500 {
		x := g.fill(g.pick("E E E Eval"), 1+n%3)
		if x.Nodes[0].Kind == api.Eval {
			x = tree.Make(api.Node{Kind: api.Program}, x)
		}
		_, thirds := agrees(t, x)
		if t.Failed() {
			return
		}
		switch {
		case thirds == 1:
			one++
		case thirds > 1:
			more++
		}
	}
	if one < 400 || more < 100 {
		t.Errorf("only %d trees with one pair, %d with more", one, more)
	}
}
