package check_test

import (
	"math/rand/v2"
	"slices"
	"strconv"
	"strings"
	"testing"

	"shuck/api"
	"shuck/bind"
	"shuck/tree"
)

// row is how nodes of a kind grow: the texts to choose from, the numbers, and a word for each kid's place; with / between: one of them; [x] is a List of x, [x:2] one of two at most, seldom; * behind the last one: any number of these.
type row struct{ text, num, kids string }

const (
	valueNames  = "a b c d a b c d a b f g C D E N print input"
	memberNames = "k x y m k x y m length push X Y a f C A"
	typeNames   = "number string boolean any unknown null undefined never void true number string number string A B I J C D E T U N.A N.I N.C E.X N.E.X N.N.A"
)

func rows() map[string]row {
	return map[string]row{
		"-": {}, "Program": {"", "", "S*"},
		"Num": {"", "0 1 2", ""}, "Str": {"a b string number object k x", "", ""}, "True": {}, "False": {}, "Null": {}, "Undefined": {}, "This": {}, "Name": {valueNames, "", ""},
		"Template": {"", "", "Str E Str"}, "Array": {"", "", "E*"}, "Object": {"", "", "Prop*"}, "Prop": {"k x y", "", "E"},
		"Arrow": {"", "", "[TypeParam:2] [P] Block/E/E"}, "Unary": {"! ! - ~ typeof", "", "E"}, "Binary": {"|| || && && && === !== < >= + + - in % >>", "", "E E"}, "Cond": {"", "", "Test/E E E"},
		"Assign": {"= = = = += -= *= %=", "", "Name/Name/Name/Name/Member/Index E"}, "Call": {"", "", "Name/Name/Member/Member/E [T:2] [E]"}, "New": {"", "", "Name/Name/Spaced [T:2] [E]"},
		"Member": {memberNames, "", "Name/Name/This/E"}, "Index": {"", "", "E E"}, "Super": {"", "", "[E]"}, "SuperMember": {"m k x", "", ""}, "As": {"", "", "E T"}, "Bang": {"", "", "E"},
		"Var": {"a b c d a b c d f C N", "0 0 1", "T/T/- E"}, "Func": {"f g a", "", "[TypeParam:2] [P] T/T/- Block"}, "Class": {"C D", "", "[TypeParam:2] Base/-/- [TypeName:2] [Field/Method/Method]"}, "Base": {"C D C D a", "", "[T:2]"},
		"Field": {"k x y m", "0 0 4", "T/T/- E/E/-"}, "Method": {"m k f", "", "[TypeParam:2] [P] T/T/- Block"}, "Ctor": {"", "", "[Param] Block"},
		"Enum": {"E D", "0 0 1", "EnumMember*"}, "EnumMember": {"X Y", "", "-/-/Constant/E"}, "Namespace": {"N", "", "S/Export/Export*"},
		"Export":    {"", "", "VarConst/Func/Class/EnumOpen/Namespace/Interface/Alias"},
		"Interface": {"I J A", "", "[TypeParam:2] [TypeName:2] TypeObject"}, "Alias": {"A B", "", "[TypeParam:2] T"},
		"If": {"", "", "Test/Test/E Block Block/If/-"}, "While": {"", "", "Test/E/True Block"}, "For": {"", "", "VarLet/VarLet/- Test/E/- E/- Block"}, "ForOf": {"a b c d", "0 1", "E Block"},
		"Return": {"", "", "E/E/-"}, "Break": {}, "Continue": {}, "Throw": {"", "", "E"}, "Try": {"", "", "Block Catch Block/-"}, "Catch": {"a b c d", "", "Block"},
		"Block": {"", "", "S*"}, "Eval": {"", "", "E"}, "Empty": {}, "Param": {"a b c d k x", "0 0 1 2 3 4 5 6 7", "T/T/-"}, "TypeParam": {"T U T U A", "", ""},
		"TypeName": {typeNames, "", "[T:2]"}, "TypeNum": {"", "0 1 -1", ""}, "TypeStr": {"a b", "", ""}, "TypeArray": {"", "", "T"}, "TypeObject": {"", "", "TypeProp*"}, "TypeProp": {"k x y m", "0 0 1", "T"}, "TypeFunc": {"", "", "[P] T"}, "TypeUnion": {"", "", "T T"},
	}
}

const (
	deepE = "Name Name Name Name Name Num Str True Null Undefined Template This Array Array Object Object Arrow Arrow Unary Binary Binary Test Cond Assign Assign Assign Call Call Call New New Member Member Member Index Super SuperMember SuperMember As Bang"
	lowE  = "Name Name Name Name Num Str Null True Undefined This"
	deepS = "Var Var Var Var Var Func Func Class Class Enum Namespace Interface Interface Alias Alias If If If While For ForOf Return Return Break Continue Throw Try Block Eval Eval Eval Eval Eval"
	lowS  = "Break Continue Empty Block Interface Eval Eval Eval Var Var Return"
	deepT = "TypeName TypeName TypeName TypeName TypeNum TypeStr TypeArray TypeObject TypeObject TypeFunc TypeUnion TypeUnion TypeUnion"
	lowT  = "TypeName TypeName TypeName TypeNum TypeStr"
)

// thing is a node with its kids in it.
type thing struct {
	kind int
	text string
	num  int
	kids []*thing
}

// lay is the tree of a thing, and the things of its nodes.
func lay(x *thing) (api.Tree, []*thing) {
	var nodes []api.Node
	var things []*thing
	var put func(x *thing)
	put = func(x *thing) {
		n := len(nodes)
		nodes = append(nodes, api.Node{Kind: x.kind, Text: x.text, Num: x.num, At: n * 3})
		things = append(things, x)
		for _, kid := range x.kids {
			nodes[n].Kids = append(nodes[n].Kids, len(nodes))
			put(kid)
		}
	}
	put(x)
	return api.Tree{Nodes: nodes}, things
}

// grower makes programs that chapter 3 takes, by numbers that choose.
type grower struct {
	rows   map[string]row
	choose func(n int) int // 0 to n - 1
	fresh  int
}

func newGrower(seed uint64) *grower {
	return &grower{rows(), rand.New(rand.NewPCG(seed, 12)).IntN, 0}
}

func (g *grower) pick(words string) string {
	l := strings.Fields(words)
	if len(l) == 0 {
		return ""
	}
	return l[g.choose(len(l))]
}

// grow is a thing of a word, at most so deep, if what must stand beneath it lets it.
func (g *grower) grow(word string, deep int) *thing {
	r, ok := g.rows[word]
	if !ok {
		panic("what is " + word + "?")
	}
	num, _ := strconv.Atoi(g.pick(r.num))
	x := &thing{kind: kindOf[word], text: g.pick(r.text), num: num}
	l := strings.Fields(r.kids)
	if last := len(l) - 1; last >= 0 && strings.HasSuffix(l[last], "*") {
		l = slices.Repeat([]string{strings.TrimSuffix(l[last], "*")}, g.choose(5)*min(1, max(0, deep)))
	}
	for _, place := range l {
		x.kids = append(x.kids, g.fill(place, deep-1))
	}
	if word == "Class" && deep > 0 && g.choose(2) == 0 {
		members := x.kids[3]
		members.kids = slices.Insert(members.kids, g.choose(len(members.kids)+1), g.grow("Ctor", deep-1))
	}
	return x
}

// fill is a thing that a place takes.
func (g *grower) fill(place string, deep int) *thing {
	if within, ok := strings.CutPrefix(place, "["); ok {
		return g.list(strings.TrimSuffix(within, "]"), deep)
	}
	word := g.pick(strings.ReplaceAll(place, "/", " "))
	choices := map[string][2]string{"E": {deepE, lowE}, "S": {deepS, lowS}, "T": {deepT, lowT}}
	if l, ok := choices[word]; ok {
		word = g.pick(l[0])
		if deep <= 0 {
			word = g.pick(l[1])
		}
		return g.fill(word, deep)
	}
	switch word {
	case "P", "VarLet", "VarConst", "EnumOpen":
		x := g.grow(map[string]string{"P": "Param", "VarLet": "Var", "VarConst": "Var", "EnumOpen": "Enum"}[word], deep)
		x.num = map[string]int{"P": g.choose(5) / 4, "VarConst": 1}[word]
		return x
	case "Spaced":
		return &thing{kind: api.Member, text: g.pick("C D"), kids: []*thing{{kind: api.Name, text: "N"}}}
	case "Constant":
		return g.grow(g.pick("Num Str Num"), deep)
	case "Test":
		return g.test(deep)
	}
	return g.grow(word, deep)
}

func (g *grower) list(within string, deep int) *thing {
	x := &thing{kind: api.List}
	word, seldom := strings.CutSuffix(within, ":2")
	count := g.choose(4)
	if seldom {
		count = max(0, g.choose(6)-3)
	}
	for range count * min(1, max(0, deep)) {
		x.kids = append(x.kids, g.fill(word, deep-1))
	}
	return x
}

// test is a condition that says something.
func (g *grower) test(deep int) *thing {
	name := &thing{kind: api.Name, text: g.pick("a b c d")}
	binary := func(sign string, kids ...*thing) *thing {
		if sign != "in" && g.choose(2) == 0 {
			slices.Reverse(kids)
		}
		return &thing{kind: api.Binary, text: sign, kids: kids}
	}
	value := g.grow(g.pick("Num Str Null Undefined True False Null Undefined"), 0)
	if g.choose(6) == 0 {
		value = &thing{kind: api.Member, text: g.pick("X Y"), kids: []*thing{{kind: api.Name, text: "E"}}}
	}
	if value.kind == api.Num && g.choose(3) == 0 {
		value = &thing{kind: api.Unary, text: "-", kids: []*thing{value}}
	}
	sign := g.pick("=== !==")
	switch g.choose(7) {
	case 0:
		return name
	case 1:
		of := &thing{kind: api.Unary, text: "typeof", kids: []*thing{name}}
		return binary(sign, of, &thing{kind: api.Str, text: g.pick("string number boolean undefined function object")})
	case 2:
		return binary(sign, name, value)
	case 3:
		return binary(sign, &thing{kind: api.Member, text: g.pick("k x"), kids: []*thing{name}}, value)
	case 4:
		return binary("in", &thing{kind: api.Str, text: g.pick("k x y")}, name)
	case 5:
		return &thing{kind: api.Unary, text: "!", kids: []*thing{g.fill("Test/E", deep-1)}}
	}
	return binary(g.pick("&& ||"), g.fill("Test/E", deep-1), g.fill("Test/E", deep-1))
}

// anyType is the type any, written.
func anyType() *thing {
	return &thing{kind: api.TypeName, text: "any", kids: []*thing{{kind: api.List}}}
}

// asAny makes a thing one that has the type any.
func asAny(x *thing) {
	inner := *x
	*x = thing{kind: api.As, kids: []*thing{&inner, anyType()}}
}

func (g *grower) freshName() string {
	g.fresh++
	return "n" + strconv.Itoa(g.fresh)
}

// mendName makes something else of a thing that offends by chapter 7, which offends no more in that way.
func (g *grower) mendName(x *thing, things []*thing) {
	switch {
	case isOf(x.kind, "Var Func Class Enum Namespace Param Catch ForOf"):
		x.text = g.freshName()
	case x.kind == api.Name:
		var declared []string
		for _, other := range things {
			if isOf(other.kind, "Var Func Class Enum Namespace Param Catch ForOf") {
				declared = append(declared, other.text)
			}
		}
		x.text = g.pick(strings.Join(declared, " ") + " print input")
	case x.kind == api.Base:
		*x = thing{kind: api.None}
	case x.kind == api.Assign:
		x.kids[0] = &thing{kind: api.Member, text: "m", kids: []*thing{x.kids[0]}}
	case x.kind == api.Return && x.kids[0].kind != api.None && g.choose(2) == 0:
		x.kids[0] = &thing{kind: api.None}
	case isOf(x.kind, "Return Break Continue"):
		*x = thing{kind: api.Empty}
	case isOf(x.kind, "This SuperMember Super"):
		*x = *g.grow("Name", 0)
	case x.kind == api.Ctor:
		super := &thing{kind: api.Super, kids: []*thing{{kind: api.List}}}
		x.kids[1].kids = slices.Insert(x.kids[1].kids, 0, &thing{kind: api.Eval, kids: []*thing{super}})
	default:
		panic("who offends?")
	}
}

// mendType makes something else of a node that offends by chapter 12, so that it offends no more in that way.
func (g *grower) mendType(x, above *thing, why string) {
	isPlace := above.kind == api.Assign && above.kids[0] == x
	switch {
	case isOf(x.kind, "Interface Alias Class Enum TypeParam Field Method Param TypeProp Prop"):
		x.text = g.freshName()
	case x.kind == api.EnumMember:
		x.text, x.kids[0] = g.freshName(), g.grow("Str", 0)
	case x.kind == api.Base:
		*x = thing{kind: api.None}
	case why == "no interface" || why == "no pieces" || why == "not implemented":
		above.kids = slices.DeleteFunc(above.kids, func(kid *thing) bool { return kid == x })
	case isOf(x.kind, "TypeName TypeNum TypeStr TypeArray TypeObject TypeFunc TypeUnion"):
		*x = *anyType()
	case x.kind == api.Return:
		x.kids[0] = &thing{kind: api.Null}
	case isPlace && x.kind == api.Name || above.kind == api.New && above.kids[0] == x || x.kind == api.Assign:
		kid := above
		if x.kind == api.Assign {
			kid = x
		}
		*kid = *kid.kids[len(kid.kids)-1]
		if kid.kind == api.List {
			*kid = thing{kind: api.Array, kids: kid.kids}
		}
	case why == "itself" && isOf(x.kind, "Member Index") || isPlace:
		asAny(x.kids[0])
	case why == "itself" && x.kind == api.Call && g.choose(2) == 0:
		x.kids[1].kids = nil
		asAny(x.kids[0])
	case why == "itself" && x.kind == api.Binary:
		x.text = g.pick("=== !==")
	case why == "itself" || why == "const enum":
		*x = *g.grow("Null", 0)
	default:
		asAny(x)
	}
}

// parentOf is the thing above a node.
func parentOf(x api.Tree, things []*thing, n int) *thing {
	for m, node := range x.Nodes {
		if slices.Contains(node.Kids, n) {
			return things[m]
		}
	}
	return &thing{}
}

const mostNodes = 260

// bound is a program that chapter 7 takes: one by chance, mended again and again.
func (g *grower) bound(t *testing.T, x *thing) (api.Tree, []*thing, bool) {
	for range 300 {
		made, things := lay(x)
		if n, e := tree.Check(made); e != api.OK {
			t.Fatalf("no tree: %d, %v", n, made)
		}
		if len(made.Nodes) > mostNodes {
			return made, things, false
		}
		_, n, e := bind.Program(made)
		if e == api.OK {
			return made, things, true
		}
		g.mendName(things[n], things)
	}
	return api.Tree{}, nil, false
}

// good is a program in which nothing offends, if it comes to that: one by chance, mended again and again, and held against the slow reading each time.
func (g *grower) good(t *testing.T, deep int, count map[string]int) (api.Tree, bool) {
	x := g.grow("Program", deep)
	for range 200 {
		made, things, ok := g.bound(t, x)
		if !ok {
			return made, false
		}
		c, why := agrees(t, "by chance", made)
		switch c.Err {
		case api.OK:
			count["OK"]++
			return made, true
		case api.ErrComplex:
			count["complex"]++
			return made, false
		}
		count[why[c.Node]]++
		g.mendType(things[c.Node], parentOf(made, things, c.Node), why[c.Node])
	}
	return api.Tree{}, false
}
