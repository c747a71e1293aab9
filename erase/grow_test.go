package erase_test

import (
	"math/rand/v2"
	"slices"
	"strconv"
	"strings"
	"testing"

	"shuck/api"
	"shuck/tree"
)

// row is how nodes of a kind grow: the texts to choose from, the numbers, and a word for each kid's place; with / between: one of them; [x] is a List of x; * behind the last one: any number of these.
type row struct{ text, num, kids string }

const (
	valueNames  = "a b c d a b c d print"
	memberNames = "m n o p"
)

func rows() map[string]row {
	return map[string]row{
		"-": {}, "Program": {"", "", "S*"},
		"Num": {"", "0 7", ""}, "Str": {"a é", "", ""}, "Null": {}, "Name": {valueNames, "", ""}, "This": {},
		"Template": {"", "", "Str E Str"}, "Array": {"", "", "E*"}, "Object": {"", "", "Prop*"}, "Prop": {memberNames, "", "E"},
		"Arrow": {"", "", "[TypeParam] [P] Block/Block/E"}, "Unary": {"! - ~", "", "E"}, "Binary": {"|| && + < > ===", "", "E E"}, "Cond": {"", "", "E E E"},
		"Assign": {"= +=", "", "Name/Case/Member/Index E"}, "Call": {"", "", "E [T] [E]"}, "New": {"", "", "Name/Case [T] [E]"}, "Member": {memberNames, "", "E"}, "Case": {memberNames, "", "Name"}, "Index": {"", "", "E E"},
		"Super": {"", "", "[E]"}, "SuperMember": {memberNames, "", ""}, "As": {"", "", "E T"}, "Bang": {"", "", "E"},
		"Var": {valueNames, "0 1", "T/-/- E"}, "Func": {valueNames, "", "[TypeParam] [P] T/-/- Block"}, "Class": {valueNames, "", "[TypeParam] Base/-/- [TypeName] [Field/Method]"}, "Base": {valueNames, "", "[T]"},
		"Field": {memberNames, "0 4", "T/-/- E/E/-"}, "Method": {memberNames, "", "[TypeParam] [P] T/-/- Block"}, "Ctor": {"", "", "[Param] Block"},
		"Enum": {valueNames, "0 1 1 1", "EnumMember EnumMember*"}, "EnumMember": {memberNames, "", "K"}, "Namespace": {valueNames, "", "S/Export/Export*"},
		"Export":    {"", "", "VarConst/Func/Class/EnumOpen/Namespace/Interface/Alias"},
		"Interface": {valueNames, "", "[TypeParam] [TypeName] TypeObject"}, "Alias": {valueNames, "", "[TypeParam] T"},
		"If": {"", "", "E Block Block/If/-"}, "While": {"", "", "E Block"}, "For": {"", "", "VarLet/VarLet/- E/- E/- Block"}, "ForOf": {valueNames, "0 1", "E Block"},
		"Return": {"", "", "E/-"}, "Break": {}, "Continue": {}, "Throw": {"", "", "E"}, "Try": {"", "", "Block Catch Block/-"}, "Catch": {valueNames, "", "Block"},
		"Block": {"", "", "S*"}, "Eval": {"", "", "E"}, "Empty": {}, "Param": {valueNames, "0 1 2 3 4 5 6 7", "T/-/-"}, "TypeParam": {valueNames, "", ""},
		"TypeName": {"a a.m null", "", "[T]"}, "TypeNum": {"", "0 -7", ""}, "TypeStr": {"a é", "", ""}, "TypeArray": {"", "", "T"}, "TypeObject": {"", "", "TypeProp*"}, "TypeProp": {memberNames, "0 1", "T"}, "TypeFunc": {"", "", "[P] T"}, "TypeUnion": {"", "", "T T"},
	}
}

const (
	deepE = "Name Case Case Case Case Case Case Num Template This Array Object Arrow Arrow Unary Binary Binary Cond Assign Call Call New Member Index SuperMember As Bang"
	lowE  = "Name Case Case Case Num This"
	deepS = "Var Var Func Func Class Class Enum Enum Enum Enum Namespace Namespace Namespace Interface Alias If While For ForOf Return Break Continue Throw Try Block Eval Eval Eval Empty"
	lowS  = "Enum Enum Empty Block Interface Eval Eval Var Return"
	deepT = "TypeName TypeNum TypeStr TypeArray TypeObject TypeFunc TypeUnion"
	lowT  = "TypeName TypeNum"
)

// grower makes programs that chapter 3 takes, by numbers that choose.
type grower struct {
	rows   map[string]row
	choose func(n int) int // 0 to n - 1
	fresh  int
}

func newGrower(seed uint64) *grower {
	return &grower{rows(), rand.New(rand.NewPCG(seed, 13)).IntN, 0}
}

func (g *grower) pick(words string) string {
	l := strings.Fields(words)
	if len(l) == 0 {
		return ""
	}
	return l[g.choose(len(l))]
}

// grow is a thing of a word, at most so deep, if what must stand beneath it lets it.
func (g *grower) grow(word string, deep int) *thing {
	r := g.rows[word]
	num, _ := strconv.Atoi(g.pick(r.num))
	kind := kindOf[word]
	if word == "Case" {
		kind = api.Member
	}
	x := &thing{kind: kind, text: g.pick(r.text), num: num}
	l := strings.Fields(r.kids)
	if last := len(l) - 1; last >= 0 && strings.HasSuffix(l[last], "*") {
		more := slices.Repeat([]string{strings.TrimSuffix(l[last], "*")}, g.choose(5)*min(1, max(0, deep)))
		l = append(l[:last:last], more...)
	}
	for _, place := range l {
		x.kids = append(x.kids, g.fill(place, deep-1))
	}
	if word == "Class" && deep > 0 && g.choose(3) > 0 {
		members := x.kids[3]
		members.kids = slices.Insert(members.kids, g.choose(len(members.kids)+1), g.grow("Ctor", deep-1))
	}
	return x
}

// fill is a thing that a place takes.
func (g *grower) fill(place string, deep int) *thing {
	if within, ok := strings.CutPrefix(place, "["); ok {
		x := &thing{kind: api.List}
		for range g.choose(4) * min(1, max(0, deep)) {
			x.kids = append(x.kids, g.fill(strings.TrimSuffix(within, "]"), deep-1))
		}
		return x
	}
	word := g.pick(strings.ReplaceAll(place, "/", " "))
	choices := map[string][2]string{"E": {deepE, lowE}, "S": {deepS, lowS}, "T": {deepT, lowT}}
	if l, ok := choices[word]; ok {
		word = g.pick(l[0])
		if deep <= 0 {
			word = g.pick(l[1])
		}
		return g.grow(word, deep)
	}
	if word == "K" {
		return g.constant()
	}
	if as, ok := map[string]string{"P": "Param", "VarLet": "Var", "VarConst": "Var", "EnumOpen": "Enum"}[word]; ok {
		x := g.grow(as, deep)
		x.num = map[string]int{"P": g.choose(2), "VarConst": 1}[word]
		return x
	}
	return g.grow(word, deep)
}

// constant is what an EnumMember has; now and then it is refused.
func (g *grower) constant() *thing {
	num := func() *thing { return &thing{kind: api.Num, num: g.choose(5)} }
	switch g.choose(16) {
	case 0, 1, 2:
		return num()
	case 3, 4:
		return &thing{kind: api.Unary, text: g.pick("- ~"), kids: []*thing{num()}}
	case 5, 6, 7:
		return &thing{kind: api.Str, text: g.pick("a é x")}
	case 8:
		return &thing{kind: api.Binary, text: g.pick("- % << *"), kids: []*thing{num(), num()}}
	case 9:
		return &thing{kind: api.Num, num: api.MaxNumber - g.choose(2)}
	case 10:
		return g.fill("E", 2)
	}
	return &thing{kind: api.None}
}

// mend makes something else of a thing that offends, which mostly offends no more in that way.
func (g *grower) mend(x, above *thing, why string) {
	switch {
	case why == "no member":
		above.text = g.pick(memberNames + " n1 n2")
		if g.choose(3) == 0 {
			x.text = "print"
		}
	case why == "alone" && above.kind != api.New && g.choose(3) > 0:
		*x = thing{kind: api.Member, text: g.pick(memberNames), kids: []*thing{{kind: api.Name, text: x.text}}}
	case x.kind == api.EnumMember && g.choose(3) > 0:
		x.kids[0] = &thing{kind: api.Num, num: g.choose(9)}
		fallthrough
	case isOf(x.kind, "Var Func Class Enum EnumMember Namespace Param Catch ForOf"):
		g.fresh++
		x.text = "n" + strconv.Itoa(g.fresh)
	case x.kind == api.Name:
		x.text = g.pick(valueNames + " input n1 n2")
	case x.kind == api.Base:
		*x = thing{kind: api.None}
	case x.kind == api.Assign:
		x.kids[0] = &thing{kind: api.Member, text: "m", kids: []*thing{x.kids[0]}}
	case x.kind == api.Return && x.kids[0].kind != api.None && g.choose(2) == 0:
		x.kids[0] = &thing{kind: api.None}
	case isOf(x.kind, "Return Break Continue"):
		*x = thing{kind: api.Empty}
	case isOf(x.kind, "This SuperMember Super"):
		*x = thing{kind: api.Null}
	case x.kind == api.Ctor:
		super := &thing{kind: api.Super, kids: []*thing{{kind: api.List}}}
		x.kids[1].kids = slices.Insert(x.kids[1].kids, 0, &thing{kind: api.Eval, kids: []*thing{super}})
	default:
		panic("who offends?")
	}
}

// parentOf is the thing that a node's thing is a kid of.
func parentOf(x api.Tree, things []*thing, n int) *thing {
	for above, node := range x.Nodes {
		if slices.Contains(node.Kids, n) {
			return things[above]
		}
	}
	return nil
}

// program is a program that mostly begins with declarations of names that are used behind them.
func (g *grower) program(deep int) *thing {
	x := g.grow("Program", deep)
	var first []*thing
	for _, name := range strings.Fields("a b c d") {
		if g.choose(4) > 0 {
			d := g.grow(g.pick("Enum Enum Enum Enum Class Namespace Func Var"), deep-2)
			d.text = name
			first = append(first, d)
		}
	}
	x.kids = append(first, x.kids...)
	return x
}

// good is a program in which nothing offends: one by chance, mended again and again, and held against the slow reading each time.
func (g *grower) good(t *testing.T, deep int, count map[string]int) (api.Tree, bool) {
	t.Helper()
	x := g.program(deep)
	for range 400 {
		made, things := lay(x)
		made = numbered(made)
		if n, e := tree.Check(made); e != api.OK {
			t.Fatalf("no tree: %d, %s", n, told(made))
		}
		if len(made.Nodes) > 400 {
			return made, false
		}
		got, why := agrees(t, "by chance", made)
		count[why]++
		if got.err == api.OK {
			return made, true
		}
		g.mend(things[got.node], parentOf(made, things, got.node), why)
	}
	return api.Tree{}, false
}
