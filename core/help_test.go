package core_test

import (
	"math/rand/v2"
	"slices"
	"strconv"
	"strings"
	"testing"

	"shuck/api"
	"shuck/parse"
)

// row is a row of chapter 3's table, in the test's own words: the texts and numbers to choose from, and a word for each kid's place; with / between: one of them; [x] is a List of x; * behind the last one: any number of these.
// typed tells what the places are for: a type (t), types alone (l: a List of them), a class's members (m), a value (v), statements (s), an expression that its node gives way to (e); a . for anything else.
type row struct {
	kind            int
	word            string
	text, num, kids string
	typed           string
}

func rows() []row {
	return []row{
		{api.None, "-", "", "", "", ""},
		{api.List, "L", "", "", "any*", ""},
		{api.Program, "Program", "", "", "S*", "s"},
		{api.Num, "Num", "", "0 7 9007199254740991", "", ""},
		{api.Str, "Str", "a é of", "", "", ""},
		{api.Template, "Template", "", "", "Str E Str", ""},
		{api.True, "True", "", "", "", ""},
		{api.False, "False", "", "", "", ""},
		{api.Null, "Null", "", "", "", ""},
		{api.Undefined, "Undefined", "", "", "", ""},
		{api.Name, "Name", "a b", "", "", ""},
		{api.This, "This", "", "", "", ""},
		{api.Array, "Array", "", "", "E*", ""},
		{api.Object, "Object", "", "", "Prop*", ""},
		{api.Prop, "Prop", "a b", "", "E", ""},
		{api.Arrow, "Arrow", "", "", "[TypeParam] [P] Block/E", "l . ."},
		{api.Unary, "Unary", "! - ~ typeof", "", "E", ""},
		{api.Binary, "Binary", "|| === in + >>>", "", "E E", ""},
		{api.Cond, "Cond", "", "", "E E E", ""},
		{api.Assign, "Assign", "= += %=", "", "Name/Member/Index E", ""},
		{api.Call, "Call", "", "", "E [T] [E]", ". l ."},
		{api.New, "New", "", "", "Name [T] [E]", ". l ."},
		{api.Member, "Member", "a b", "", "E", ""},
		{api.Index, "Index", "", "", "E E", ""},
		{api.Super, "Super", "", "", "[E]", ""},
		{api.SuperMember, "SuperMember", "a b", "", "", ""},
		{api.As, "As", "", "", "E T", "e t"},
		{api.Bang, "Bang", "", "", "E", "e"},
		{api.Var, "Var", "a b", "0 1", "T/- E", "t ."},
		{api.Func, "Func", "a b", "", "[TypeParam] [P] T/- Block", "l . t ."},
		{api.Class, "Class", "a b", "", "[TypeParam] Base/- [TypeName] [Field/Method]", "l . l m"},
		{api.Base, "Base", "a b", "", "[T]", "l"},
		{api.Field, "Field", "a b", "0 4", "T/- E/-", "t v"},
		{api.Method, "Method", "a b", "", "[TypeParam] [P] T/- Block", "l . t ."},
		{api.Ctor, "Ctor", "", "", "[Param] Block", ""},
		{api.Enum, "Enum", "a b", "0 1", "EnumMember*", ""},
		{api.EnumMember, "EnumMember", "a b", "", "E/-", ""},
		{api.Namespace, "Namespace", "a b", "", "S/Export/Export*", "s"},
		{api.Export, "Export", "", "", "VarConst/Func/Class/EnumOpen/Namespace/Interface/Alias", ""},
		{api.Interface, "Interface", "a b", "", "[TypeParam] [TypeName] TypeObject", ""},
		{api.Alias, "Alias", "a b", "", "[TypeParam] T", ""},
		{api.If, "If", "", "", "E Block Block/If/-", ""},
		{api.While, "While", "", "", "E Block", ""},
		{api.For, "For", "", "", "VarLet/- E/- E/- Block", ""},
		{api.ForOf, "ForOf", "a b", "0 1", "E Block", ""},
		{api.Return, "Return", "", "", "E/-", ""},
		{api.Break, "Break", "", "", "", ""},
		{api.Continue, "Continue", "", "", "", ""},
		{api.Throw, "Throw", "", "", "E", ""},
		{api.Try, "Try", "", "", "Block Catch Block/-", ""},
		{api.Catch, "Catch", "a b", "", "Block", ""},
		{api.Block, "Block", "", "", "S*", "s"},
		{api.Eval, "Eval", "", "", "E", ""},
		{api.Empty, "Empty", "", "", "", ""},
		{api.Param, "Param", "a b", "0 1 2 3 4 5 6 7", "T/-", "t"},
		{api.TypeParam, "TypeParam", "a b", "", "", ""},
		{api.TypeName, "TypeName", "a a.b null", "", "[T]", ""},
		{api.TypeNum, "TypeNum", "", "0 -7", "", ""},
		{api.TypeStr, "TypeStr", "a é", "", "", ""},
		{api.TypeArray, "TypeArray", "", "", "T", ""},
		{api.TypeObject, "TypeObject", "", "", "TypeProp*", ""},
		{api.TypeProp, "TypeProp", "a b", "0 1", "T", ""},
		{api.TypeFunc, "TypeFunc", "", "", "[P] T", ""},
		{api.TypeUnion, "TypeUnion", "", "", "T T", ""},
	}
}

const (
	expressions = " Num Str Template True False Null Undefined Name This Array Object Arrow Unary Binary Cond Assign Call New Member Index Super SuperMember As Bang "
	statements  = " Var Func Class Enum Namespace Interface Alias If While For ForOf Return Break Continue Throw Try Block Eval Empty "
	typeWords   = " TypeName TypeNum TypeStr TypeArray TypeObject TypeFunc TypeUnion "
	// notPlain are the words that no plain node has.
	notPlain = " As Bang Enum EnumMember Namespace Export Interface Alias TypeParam TypeProp " + typeWords
)

func has(words, word string) bool { return strings.Contains(words, " "+word+" ") }

// table is the rows by their kinds and by their words.
type table struct {
	kinds map[int]row
	words map[string]row
}

func newTable() table {
	x := table{map[int]row{}, map[string]row{}}
	for _, r := range rows() {
		x.kinds[r.kind] = r
		x.words[r.word] = r
	}
	return x
}

// thing is a node with its kids in it.
type thing struct {
	word    string
	text    string
	num, at int
	kids    []thing
}

// thingOf is the node n of a tree that chapter 3 takes.
func (x table) thingOf(l []api.Node, n int) thing {
	y := thing{x.kinds[l[n].Kind].word, l[n].Text, l[n].Num, l[n].At, nil}
	for _, k := range l[n].Kids {
		y.kids = append(y.kids, x.thingOf(l, k))
	}
	return y
}

// lay lays things out as a tree's nodes.
func (x table) lay(l []api.Node, y thing) []api.Node {
	n := len(l)
	l = append(l, api.Node{Kind: x.words[y.word].kind, Text: y.text, Num: y.num, At: y.at})
	for _, kid := range y.kids {
		l[n].Kids = append(l[n].Kids, len(l))
		l = x.lay(l, kid)
	}
	return l
}

func (x table) treeOf(y thing) api.Tree { return api.Tree{Nodes: x.lay(nil, y)} }

// place is what a kid's place is for.
func (x table) place(y thing, kid int) string {
	f := strings.Fields(x.words[y.word].typed)
	switch {
	case len(f) == 0:
		return "."
	case f[0] == "s":
		return "s"
	}
	return f[kid]
}

// plain tells by the chapter's words whether a node is plain.
func (x table) plain(y thing) bool {
	if has(notPlain, y.word) || (y.word == "Param" || y.word == "Field") && y.num != 0 {
		return false
	}
	for i, kid := range y.kids {
		switch x.place(y, i) {
		case "t":
			if kid.word != "-" {
				return false
			}
		case "l":
			if len(kid.kids) > 0 {
				return false
			}
		case "v":
			if kid.word == "-" {
				return false
			}
		}
	}
	return true
}

// check is what Check must answer of a tree that chapter 3 takes.
func (x table) check(t api.Tree) (int, api.Errno) {
	for n := range t.Nodes {
		if !x.plain(x.thingOf(t.Nodes, n)) {
			return n, api.ErrCore
		}
	}
	return -1, api.OK
}

// strip is what is left of a thing, by the chapter's words.
func (x table) strip(y thing) thing {
	left := thing{y.word, y.text, y.num, y.at, nil}
	for i, kid := range y.kids {
		switch x.place(y, i) {
		case "e":
			return x.strip(kid)
		case "t":
			left.kids = append(left.kids, thing{word: "-", at: kid.at})
		case "l":
			left.kids = append(left.kids, thing{word: "L", at: kid.at})
		case "m":
			members := thing{word: "L", at: kid.at}
			for _, m := range kid.kids {
				if m.word != "Field" || m.kids[1].word != "-" {
					members.kids = append(members.kids, x.strip(m))
				}
			}
			left.kids = append(left.kids, members)
		case "s":
			if !forTypes(kid) && !(kid.word == "Export" && forTypes(kid.kids[0])) {
				left.kids = append(left.kids, x.strip(kid))
			}
		default:
			left.kids = append(left.kids, x.strip(kid))
		}
	}
	switch {
	case y.word == "Field":
		left.num = 0
	case y.word == "Param" && y.num >= 2:
		left.num = api.Public
	case y.word == "Param":
		left.num = 0
	}
	return left
}

func forTypes(y thing) bool { return y.word == "Interface" || y.word == "Alias" }

// told is a node and what stands beneath it, in one line: its word, its Text, its Num (if it is not 0), its At, its kids.
func (x table) told(y thing) string {
	s := y.word
	if y.text != "" {
		s += " " + y.text
	}
	if y.num != 0 {
		s += " " + strconv.Itoa(y.num)
	}
	s += "@" + strconv.Itoa(y.at)
	if len(y.kids) == 0 {
		return s
	}
	var kids []string
	for _, k := range y.kids {
		kids = append(kids, x.told(k))
	}
	return s + " [" + strings.Join(kids, ", ") + "]"
}

// tell is a tree in one line; its nodes are laid out one behind the other, or it is none.
func tell(t api.Tree) string {
	x := newTable()
	if len(t.Nodes) == 0 {
		return "none"
	}
	y := x.thingOf(t.Nodes, 0)
	if !equal(t, x.treeOf(y)) {
		return "not laid out"
	}
	return x.told(y)
}

// equal tells whether trees are the same, their At too.
func equal(a, b api.Tree) bool {
	return slices.EqualFunc(a.Nodes, b.Nodes, func(x, y api.Node) bool {
		return x.Kind == y.Kind && x.Text == y.Text && x.Num == y.Num && x.At == y.At && slices.Equal(x.Kids, y.Kids)
	})
}

// copied is a tree that shares no list with another.
func copied(t api.Tree) api.Tree {
	l := slices.Clone(t.Nodes)
	for i := range l {
		l[i].Kids = slices.Clone(l[i].Kids)
	}
	return api.Tree{Nodes: l}
}

// turned is a tree with one thing changed.
func turned(t api.Tree, f func(l []api.Node)) api.Tree {
	c := copied(t)
	f(c.Nodes)
	return c
}

// read is the tree of a text.
func read(t *testing.T, text string) api.Tree {
	t.Helper()
	x, at, e := parse.Program([]byte(text))
	if e != api.OK {
		t.Fatalf("%q: %d, %v", text, at, e)
	}
	return x
}

// numbered is a tree whose nodes have their numbers, and so much more, as At.
func numbered(t api.Tree, by int) api.Tree {
	return turned(t, func(l []api.Node) {
		for i := range l {
			l[i].At = i + by
		}
	})
}

// grower makes trees that chapter 3's table takes, by numbers that choose.
type grower struct {
	table
	choose func(n int) int // 0 to n - 1
}

func newGrower(seed uint64) grower {
	return grower{newTable(), rand.New(rand.NewPCG(seed, 5)).IntN}
}

func (g grower) pick(words string) string {
	l := strings.Fields(words)
	if len(l) == 0 {
		return ""
	}
	return l[g.choose(len(l))]
}

// grow is a thing of a word, at most so deep, if what must stand beneath it lets it.
func (g grower) grow(word string, deep int) thing {
	r := g.words[word]
	num, _ := strconv.Atoi(g.pick(r.num))
	y := thing{word: word, text: g.pick(r.text), num: num, at: g.choose(1000)}
	l := strings.Fields(r.kids)
	if last := len(l) - 1; last >= 0 && strings.HasSuffix(l[last], "*") {
		l = slices.Repeat([]string{strings.TrimSuffix(l[last], "*")}, g.choose(5)*min(1, max(0, deep)))
	}
	for _, place := range l {
		y.kids = append(y.kids, g.fill(place, deep-1))
	}
	if word == "Class" && deep > 0 && g.choose(2) == 0 {
		members := &y.kids[3]
		members.kids = slices.Insert(members.kids, g.choose(len(members.kids)+1), g.grow("Ctor", deep-1))
	}
	return y
}

// fill is a thing that a place takes.
func (g grower) fill(place string, deep int) thing {
	if within, ok := strings.CutPrefix(place, "["); ok {
		y := thing{word: "L", at: g.choose(1000)}
		for range g.choose(4) * min(1, max(0, deep)) {
			y.kids = append(y.kids, g.fill(strings.TrimSuffix(within, "]"), deep-1))
		}
		return y
	}
	word := g.pick(strings.ReplaceAll(place, "/", " "))
	switch word {
	case "any":
		word = rows()[g.choose(len(rows()))].word
	case "E":
		word = g.word(expressions+"As Bang As Bang", "Num Str True False Null Undefined Name This SuperMember", deep)
	case "S":
		word = g.word(statements, "Break Continue Empty Block Interface Alias", deep)
	case "T":
		word = g.word(typeWords, "TypeNum TypeStr TypeName", deep)
	case "P", "VarLet", "VarConst", "EnumOpen":
		y := g.grow(map[string]string{"P": "Param", "VarLet": "Var", "VarConst": "Var", "EnumOpen": "Enum"}[word], deep)
		y.num = map[string]int{"P": g.choose(2), "VarConst": 1}[word]
		return y
	}
	return g.grow(word, deep)
}

// word is one of all words, or of the low ones, if it may not be deep any more.
func (g grower) word(all, low string, deep int) string {
	if deep <= 0 {
		all = low
	}
	return g.pick(all)
}

// grown are trees of every kind, and programs and expressions by chance.
func grown(count, deep int) []api.Tree {
	g := newGrower(uint64(deep))
	var all []api.Tree
	for _, r := range rows() {
		for range 4 {
			all = append(all, g.treeOf(g.grow(r.word, 2)))
		}
	}
	for range count {
		all = append(all, g.treeOf(g.grow("Program", deep)), g.treeOf(g.fill("E", deep)))
	}
	return all
}
