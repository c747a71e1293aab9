package bind_test

import (
	"math/rand/v2"
	"slices"
	"strconv"
	"strings"
	"testing"

	"shuck/api"
	"shuck/tree"
)

// row is how nodes of a kind grow: the texts to choose from, the numbers, and a word for each kid's place; with / between: one of them; [x] is a List of x; * behind the last one: any number of these.
type row struct{ text, num, kids string }

const names = "a b c d a b c d print"

func rows() map[string]row {
	return map[string]row{
		"-": {}, "Program": {"", "", "S*"},
		"Num": {"", "0 7", ""}, "Str": {"a", "", ""}, "Null": {}, "Name": {names, "", ""}, "This": {},
		"Template": {"", "", "Str E Str"}, "Array": {"", "", "E*"}, "Object": {"", "", "Prop*"}, "Prop": {"a b", "", "E"},
		"Arrow": {"", "", "[TypeParam] [P] Block/Block/E"}, "Unary": {"! -", "", "E"}, "Binary": {"|| && + <", "", "E E"}, "Cond": {"", "", "E E E"},
		"Assign": {"= +=", "", "Name/Name/Name/Member/Index E"}, "Call": {"", "", "E [T] [E]"}, "New": {"", "", "Name [T] [E]"}, "Member": {"a b", "", "E"}, "Index": {"", "", "E E"},
		"Super": {"", "", "[E]"}, "SuperMember": {"a b", "", ""}, "As": {"", "", "E T"}, "Bang": {"", "", "E"},
		"Var": {names, "0 1", "T/-/- E"}, "Func": {names, "", "[TypeParam] [P] T/-/- Block"}, "Class": {names, "", "[TypeParam] Base/- [TypeName] [Field/Method]"}, "Base": {names, "", "[T]"},
		"Field": {"a b", "0 4", "T/-/- E/E/-"}, "Method": {"a b", "", "[TypeParam] [P] T/-/- Block"}, "Ctor": {"", "", "[Param] Block"},
		"Enum": {names, "0 1", "EnumMember*"}, "EnumMember": {"a b", "", "E/-"}, "Namespace": {names, "", "S/Export*"},
		"Export":    {"", "", "VarConst/Func/Class/EnumOpen/Namespace/Interface/Alias"},
		"Interface": {names, "", "[TypeParam] [TypeName] TypeObject"}, "Alias": {names, "", "[TypeParam] T"},
		"If": {"", "", "E Block Block/If/-"}, "While": {"", "", "E Block"}, "For": {"", "", "VarLet/VarLet/- E/- E/- Block"}, "ForOf": {names, "0 1", "E Block"},
		"Return": {"", "", "E/-"}, "Break": {}, "Continue": {}, "Throw": {"", "", "E"}, "Try": {"", "", "Block Catch Block/-"}, "Catch": {names, "", "Block"},
		"Block": {"", "", "S*"}, "Eval": {"", "", "E"}, "Empty": {}, "Param": {names, "0 1 2 3 4 5 6 7", "T/-/-"}, "TypeParam": {names, "", ""},
		"TypeName": {"a a.b null", "", "[T]"}, "TypeNum": {"", "0 -7", ""}, "TypeArray": {"", "", "T"}, "TypeObject": {"", "", "TypeProp*"}, "TypeProp": {"a b", "0 1", "T"}, "TypeFunc": {"", "", "[P] T"}, "TypeUnion": {"", "", "T T"},
	}
}

const (
	deepE = "Name Name Name Name Num Template This Array Object Arrow Arrow Arrow Unary Binary Cond Assign Assign Assign Call Call New Member Index Super SuperMember As Bang"
	lowE  = "Name Name Name Num This SuperMember"
	deepS = "Var Var Var Var Func Func Class Class Class Enum Namespace Namespace Interface Alias If While For ForOf Return Break Continue Throw Try Block Eval Eval Eval Empty"
	lowS  = "Break Continue Empty Block Interface Eval Eval Var Return"
	deepT = "TypeName TypeNum TypeArray TypeObject TypeFunc TypeUnion"
	lowT  = "TypeName TypeNum"
)

// thing is a node with its kids in it.
type thing struct {
	kind int
	text string
	num  int
	kids []*thing
}

// lay is the tree of a thing, and the things of its nodes.
func lay(x *thing) (api.Tree, []*thing) {
	var nodes []api.Node
	var things []*thing
	var put func(x *thing)
	put = func(x *thing) {
		n := len(nodes)
		nodes = append(nodes, api.Node{Kind: x.kind, Text: x.text, Num: x.num, At: n * 3})
		things = append(things, x)
		for _, kid := range x.kids {
			nodes[n].Kids = append(nodes[n].Kids, len(nodes))
			put(kid)
		}
	}
	put(x)
	return api.Tree{Nodes: nodes}, things
}

// grower makes programs that chapter 3 takes, by numbers that choose.
type grower struct {
	rows   map[string]row
	choose func(n int) int // 0 to n - 1
	fresh  int
}

func newGrower(seed uint64) *grower {
	return &grower{rows(), rand.New(rand.NewPCG(seed, 7)).IntN, 0}
}

func (g *grower) pick(words string) string {
	l := strings.Fields(words)
	if len(l) == 0 {
		return ""
	}
	return l[g.choose(len(l))]
}

// grow is a thing of a word, at most so deep, if what must stand beneath it lets it.
func (g *grower) grow(word string, deep int) *thing {
	r := g.rows[word]
	num, _ := strconv.Atoi(g.pick(r.num))
	x := &thing{kind: kinds[word], text: g.pick(r.text), num: num}
	l := strings.Fields(r.kids)
	if last := len(l) - 1; last >= 0 && strings.HasSuffix(l[last], "*") {
		l = slices.Repeat([]string{strings.TrimSuffix(l[last], "*")}, g.choose(5)*min(1, max(0, deep)))
	}
	for _, place := range l {
		x.kids = append(x.kids, g.fill(place, deep-1))
	}
	if word == "Class" && deep > 0 && g.choose(2) == 0 {
		members := x.kids[3]
		members.kids = slices.Insert(members.kids, g.choose(len(members.kids)+1), g.grow("Ctor", deep-1))
	}
	return x
}

// fill is a thing that a place takes.
func (g *grower) fill(place string, deep int) *thing {
	if within, ok := strings.CutPrefix(place, "["); ok {
		x := &thing{kind: api.List}
		for range g.choose(4) * min(1, max(0, deep)) {
			x.kids = append(x.kids, g.fill(strings.TrimSuffix(within, "]"), deep-1))
		}
		return x
	}
	word := g.pick(strings.ReplaceAll(place, "/", " "))
	choices := map[string][2]string{"E": {deepE, lowE}, "S": {deepS, lowS}, "T": {deepT, lowT}}
	if l, ok := choices[word]; ok {
		word = g.pick(l[0])
		if deep <= 0 {
			word = g.pick(l[1])
		}
		return g.grow(word, deep)
	}
	if as, ok := map[string]string{"P": "Param", "VarLet": "Var", "VarConst": "Var", "EnumOpen": "Enum"}[word]; ok {
		x := g.grow(as, deep)
		x.num = map[string]int{"P": g.choose(2), "VarConst": 1}[word]
		return x
	}
	return g.grow(word, deep)
}

// mend makes something else of a thing that offends, which offends no more in that way.
func (g *grower) mend(x *thing) {
	switch {
	case isOf(x.kind, declaring):
		g.fresh++
		x.text = "n" + strconv.Itoa(g.fresh)
	case x.kind == api.Name:
		x.text = g.pick(names + " input n1 n2")
	case x.kind == api.Base:
		*x = thing{kind: api.None}
	case x.kind == api.Assign:
		x.kids[0] = &thing{kind: api.Member, text: "m", kids: []*thing{x.kids[0]}}
	case x.kind == api.Return && x.kids[0].kind != api.None && g.choose(2) == 0:
		x.kids[0] = &thing{kind: api.None}
	case isOf(x.kind, "Return Break Continue"):
		*x = thing{kind: api.Empty}
	case isOf(x.kind, "This SuperMember Super"):
		*x = thing{kind: api.Null}
	case x.kind == api.Ctor:
		super := &thing{kind: api.Super, kids: []*thing{{kind: api.List}}}
		x.kids[1].kids = slices.Insert(x.kids[1].kids, 0, &thing{kind: api.Eval, kids: []*thing{super}})
	default:
		panic("who offends?")
	}
}

// agrees holds what is told of a tree against the chapter's words; it is the ways in which the node that is told offends.
func agrees(t *testing.T, x api.Tree) string {
	t.Helper()
	uses, n, e, ways := newSlow(x).program()
	told(t, "by chance", x, uses, n, e)
	if t.Failed() {
		t.Fatal(ways, x)
	}
	return ways
}

// good is a program in which nothing offends: one by chance, mended again and again, and held against the chapter's words each time.
func (g *grower) good(t *testing.T, deep int, count map[string]int) (api.Tree, bool) {
	x := g.grow("Program", deep)
	for range 400 {
		made, things := lay(x)
		if n, e := tree.Check(made); e != api.OK {
			t.Fatalf("no tree: %d, %v", n, made)
		}
		if len(made.Nodes) > 250 {
			return made, false
		}
		ways := agrees(t, made)
		count[ways]++
		if ways == "" {
			return made, true
		}
		_, n, _ := program(t, made)
		g.mend(things[n])
	}
	return api.Tree{}, false
}

// P7.1: programs by chance, from what offends in them to what is taken.
func TestChance(t *testing.T) {
	g := newGrower(1)
	count := map[string]int{}
	late, other, outside := 0, 0, 0
	for n := range 2000 {
		x, ok := g.good(t, 3+n%5, count)
		if !ok {
			continue
		}
		uses, _, _ := program(t, x)
		for _, u := range uses {
			switch {
			case u.Decl < 0:
				outside++
			case u.Late:
				late++
			default:
				other++
			}
		}
	}
	t.Log(count, late, other, outside)
	for _, way := range []string{"", "1", "2", "3", "4", "5", "6", "7", "8", "9"} {
		if count[way] < 30 {
			t.Errorf("%q: only %d", way, count[way])
		}
	}
	if late < 100 || other < 100 || outside < 100 {
		t.Errorf("only %d, %d, %d", late, other, outside)
	}
}
