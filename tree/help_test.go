package tree_test

import (
	"math/rand/v2"
	"regexp"
	"slices"
	"strconv"
	"strings"
	"unicode/utf8"

	"shuck/api"
)

const (
	reserved = "break, catch, class, const, constructor, continue, else, enum, export, extends, false, finally, for, function, if, implements, in, interface, let, namespace, new, null, of, public, readonly, return, super, this, throw, true, try, type, typeof, undefined, while, as"
	greatest = "9007199254740991"
)

// line is a row of the chapter's table, in the test's own words. Text: "name", "names", "good", or all texts that there may be. Num: "least..most", or all there may be, 0 if it is left out. Kids: a word a place; with / between: one of them; [x] is a List of x; * behind the last one: any number of these.
type line struct {
	kind            int
	word            string
	text, num, kids string
}

func lines() []line {
	return []line{
		{api.None, "-", "", "", ""},
		{api.List, "List", "", "", "any*"},
		{api.Program, "Program", "", "", "S*"},
		{api.Num, "Num", "", "0.." + greatest, ""},
		{api.Str, "Str", "good", "", ""},
		{api.Template, "Template", "", "", "E*"}, // and see alike
		{api.True, "True", "", "", ""},
		{api.False, "False", "", "", ""},
		{api.Null, "Null", "", "", ""},
		{api.Undefined, "Undefined", "", "", ""},
		{api.This, "This", "", "", ""},
		{api.Name, "Name", "name", "", ""},
		{api.Array, "Array", "", "", "E*"},
		{api.Object, "Object", "", "", "Prop*"},
		{api.Prop, "Prop", "name", "", "E"},
		{api.Arrow, "Arrow", "", "", "[TypeParam] [P] Block/E"},
		{api.Unary, "Unary", "! - ~ typeof", "", "E"},
		{api.Binary, "Binary", "|| && | ^ & === !== < <= > >= in << >> >>> + - * %", "", "E E"},
		{api.Cond, "Cond", "", "", "E E E"},
		{api.Assign, "Assign", "= += -= *= %=", "", "Name/Member/Index E"},
		{api.Call, "Call", "", "", "E [T] [E]"},
		{api.New, "New", "", "", "Named [T] [E]"},
		{api.Member, "Member", "name", "", "E"},
		{api.Index, "Index", "", "", "E E"},
		{api.Super, "Super", "", "", "[E]"},
		{api.SuperMember, "SuperMember", "name", "", ""},
		{api.As, "As", "", "", "E T"},
		{api.Bang, "Bang", "", "", "E"},
		{api.Var, "Var", "name", "0 1", "T/- E"},
		{api.Func, "Func", "name", "", "[TypeParam] [P] T/- Block"},
		{api.Class, "Class", "name", "", "[TypeParam] Base/- [TypeName] [Field/Method/Ctor]"}, // and see alike
		{api.Base, "Base", "name", "", "[T]"},
		{api.Field, "Field", "name", "0 4", "T/- E/-"},
		{api.Method, "Method", "name", "", "[TypeParam] [P] T/- Block"},
		{api.Ctor, "Ctor", "", "", "[Param] Block"},
		{api.Enum, "Enum", "name", "0 1", "EnumMember*"},
		{api.EnumMember, "EnumMember", "name", "", "E/-"},
		{api.Namespace, "Namespace", "name", "", "S/Export*"},
		{api.Export, "Export", "", "", "VarConst/Func/Class/EnumOpen/Namespace/Interface/Alias"},
		{api.Interface, "Interface", "name", "", "[TypeParam] [TypeName] TypeObject"},
		{api.Alias, "Alias", "name", "", "[TypeParam] T"},
		{api.If, "If", "", "", "E Block Block/If/-"},
		{api.While, "While", "", "", "E Block"},
		{api.For, "For", "", "", "VarLet/- E/- E/- Block"},
		{api.ForOf, "ForOf", "name", "0 1", "E Block"},
		{api.Return, "Return", "", "", "E/-"},
		{api.Break, "Break", "", "", ""},
		{api.Continue, "Continue", "", "", ""},
		{api.Throw, "Throw", "", "", "E"},
		{api.Try, "Try", "", "", "Block Catch/- Block/-"}, // and see alike
		{api.Catch, "Catch", "name", "", "Block"},
		{api.Block, "Block", "", "", "S*"},
		{api.Eval, "Eval", "", "", "E"},
		{api.Empty, "Empty", "", "", ""},
		{api.Param, "Param", "name", "0 1 2 3 4 5 6 7", "T/-"},
		{api.TypeParam, "TypeParam", "name", "", ""},
		{api.TypeName, "TypeName", "names", "", "[T]"},
		{api.TypeNum, "TypeNum", "", "-" + greatest + ".." + greatest, ""},
		{api.TypeStr, "TypeStr", "good", "", ""},
		{api.TypeArray, "TypeArray", "", "", "T"},
		{api.TypeObject, "TypeObject", "", "", "TypeProp*"},
		{api.TypeProp, "TypeProp", "name", "0 1", "T"},
		{api.TypeFunc, "TypeFunc", "", "", "[P] T"},
		{api.TypeUnion, "TypeUnion", "", "", "T T T*"},
	}
}

const (
	expressions = " Num Str Template True False Null Undefined Name This Array Object Arrow Unary Binary Cond Assign Call New Member Index Super SuperMember As Bang "
	statements  = " Var Func Class Enum Namespace Interface Alias If While For ForOf Return Break Continue Throw Try Block Eval Empty "
	typeWords   = " TypeName TypeNum TypeStr TypeArray TypeObject TypeFunc TypeUnion "
)

// words is the chapter's words once more, slow and by calls: what the package is held against.
type words struct {
	rows  map[int]line
	kinds map[string]int
	name  *regexp.Regexp
}

func newWords() words {
	w := words{map[int]line{}, map[string]int{}, regexp.MustCompile(`^[A-Za-z_$][A-Za-z_$0-9]*$`)}
	for _, x := range lines() {
		w.rows[x.kind] = x
		w.kinds[x.word] = x.kind
	}
	return w
}

func (w words) isName(s string) bool {
	return w.name.MatchString(s) && !slices.Contains(strings.Split(reserved, ", "), s)
}

func (w words) text(row line, s string) bool {
	switch row.text {
	case "":
		return s == ""
	case "name":
		return w.isName(s)
	case "good":
		return utf8.ValidString(s)
	case "names":
		return slices.Contains([]string{"null", "undefined", "true", "false"}, s) || !slices.ContainsFunc(strings.Split(s, "."), func(x string) bool { return !w.isName(x) })
	}
	return slices.Contains(strings.Fields(row.text), s)
}

func (w words) num(row line, n int) bool {
	if row.num == "" {
		return n == 0
	}
	if from, to, ok := strings.Cut(row.num, ".."); ok {
		least, _ := strconv.Atoi(from)
		most, _ := strconv.Atoi(to)
		return n >= least && n <= most
	}
	return slices.Contains(strings.Fields(row.num), strconv.Itoa(n))
}

// places is the words of so many kids' places, if there may be so many.
func places(row line, count int) ([]string, bool) {
	l := strings.Fields(row.kids)
	if last := len(l) - 1; last >= 0 && strings.HasSuffix(l[last], "*") {
		l[last] = strings.TrimSuffix(l[last], "*")
		for len(l) < count {
			l = append(l, l[last])
		}
		// What has a * may also be left out.
		if count >= last {
			l = l[:count]
		}
	}
	return l, len(l) == count
}

// takes tells whether a place of that word takes a node, which may be none.
func (w words) takes(place string, l []api.Node, n int) bool {
	if n < 0 || n >= len(l) {
		return false
	}
	if within, ok := strings.CutPrefix(place, "["); ok {
		return l[n].Kind == api.List && !slices.ContainsFunc(l[n].Kids, func(k int) bool { return !w.takes(strings.TrimSuffix(within, "]"), l, k) })
	}
	return slices.ContainsFunc(strings.Split(place, "/"), func(x string) bool { return w.takesOne(x, l, n) })
}

func (w words) takesOne(x string, l []api.Node, n int) bool {
	word := " " + w.rows[l[n].Kind].word + " "
	switch x {
	case "any":
		return true
	case "E":
		return strings.Contains(expressions, word)
	case "S":
		return strings.Contains(statements, word)
	case "T":
		return strings.Contains(typeWords, word)
	case "P":
		return l[n].Kind == api.Param && (l[n].Num == 0 || l[n].Num == 1)
	case "VarLet":
		return l[n].Kind == api.Var && l[n].Num == 0
	case "VarConst":
		return l[n].Kind == api.Var && l[n].Num == 1
	case "EnumOpen":
		return l[n].Kind == api.Enum && l[n].Num != 1
	case "Named":
		return w.named(l, n, len(l))
	}
	return l[n].Kind == w.kinds[x]
}

func (w words) named(l []api.Node, n, steps int) bool {
	if n < 0 || n >= len(l) || steps < 0 {
		return false
	}
	return l[n].Kind == api.Name || l[n].Kind == api.Member && len(l[n].Kids) == 1 && w.named(l, l[n].Kids[0], steps-1)
}

// alike tells what the table asks of all kids together, which are each as their places ask.
func (w words) alike(l []api.Node, n int) bool {
	kinds := func(m int) string {
		s := ""
		for _, k := range l[m].Kids {
			s += w.rows[l[k].Kind].word + " "
		}
		return s
	}
	switch l[n].Kind {
	case api.Template:
		return len(l[n].Kids)%2 == 1 && regexp.MustCompile(`^Str (\w+ Str )*$`).MatchString(kinds(n))
	case api.Try:
		return kinds(n) != "Block - - "
	case api.Class:
		return strings.Count(kinds(l[n].Kids[3]), "Ctor ") <= 1
	}
	return true
}

// fits tells whether a node alone does not offend, but for where its kids lie.
func (w words) fits(l []api.Node, n int) bool {
	row, ok := w.rows[l[n].Kind]
	if !ok || !w.text(row, l[n].Text) || !w.num(row, l[n].Num) {
		return false
	}
	place, ok := places(row, len(l[n].Kids))
	if !ok {
		return false
	}
	for i, k := range l[n].Kids {
		if !w.takes(place[i], l, k) {
			return false
		}
	}
	return w.alike(l, n)
}

// look looks at a node and what stands beneath it: the node that offends, or -1; and the number behind them.
func (w words) look(l []api.Node, n int) (int, int) {
	if !w.fits(l, n) {
		return n, 0
	}
	next := n + 1
	for _, k := range l[n].Kids {
		if k != next {
			return n, 0
		}
		bad := 0
		if bad, next = w.look(l, k); bad >= 0 {
			return bad, 0
		}
	}
	return -1, next
}

// check is what Check must answer.
func (w words) check(t api.Tree) (int, api.Errno) {
	if len(t.Nodes) == 0 {
		return 0, api.ErrTree
	}
	bad, next := w.look(t.Nodes, 0)
	if bad < 0 && next < len(t.Nodes) {
		bad = next
	}
	if bad >= 0 {
		return bad, api.ErrTree
	}
	return -1, api.OK
}

// node is a tree, laid out by hand.
func node(kind int, text string, num int, kids ...api.Tree) api.Tree {
	l := []api.Node{{Kind: kind, Text: text, Num: num}}
	for _, kid := range kids {
		by := len(l)
		l[0].Kids = append(l[0].Kids, by)
		for _, x := range kid.Nodes {
			moved := x
			moved.Kids = nil
			for _, k := range x.Kids {
				moved.Kids = append(moved.Kids, k+by)
			}
			l = append(l, moved)
		}
	}
	return api.Tree{Nodes: l}
}

// copied is a tree that shares nothing with another.
func copied(t api.Tree) api.Tree {
	l := slices.Clone(t.Nodes)
	for i := range l {
		l[i].Kids = slices.Clone(l[i].Kids)
	}
	return api.Tree{Nodes: l}
}

// turned is a tree with one thing changed.
func turned(t api.Tree, f func(l []api.Node)) api.Tree {
	c := copied(t)
	f(c.Nodes)
	return c
}

// grower makes trees that the table takes, by numbers that choose.
type grower struct {
	words
	choose func(n int) int // 0 to n - 1
}

func newGrower(seed uint64) grower {
	r := rand.New(rand.NewPCG(seed, 3))
	return grower{newWords(), r.IntN}
}

func pick[T any](g grower, l ...T) T { return l[g.choose(len(l))] }

func (g grower) textOf(row line) string {
	switch row.text {
	case "":
		return ""
	case "name":
		return pick(g, "a", "b", "$1", "_", "of1", "Null")
	case "good":
		return pick(g, "", "a", "é\ufffd\n", "of", "\x00")
	case "names":
		return pick(g, "a", "a.b", "A.b.C", "null", "undefined", "true", "false")
	}
	return pick(g, strings.Fields(row.text)...)
}

func (g grower) numOf(row line) int {
	if row.num == "" {
		return 0
	}
	if from, to, ok := strings.Cut(row.num, ".."); ok {
		n, _ := strconv.Atoi(pick(g, from, to, "0", "1", "7"))
		return n
	}
	n, _ := strconv.Atoi(pick(g, strings.Fields(row.num)...))
	return n
}

// kind is a tree of a kind, at most so deep, if the kinds beneath it let it.
func (g grower) kind(kind, deep int) api.Tree {
	row := g.rows[kind]
	count := len(strings.Fields(row.kids))
	if strings.HasSuffix(row.kids, "*") {
		count--
		if deep > 0 {
			count += g.choose(4)
		}
	}
	if kind == api.Template {
		count |= 1
	}
	place, _ := places(row, count)
	for {
		var kids []api.Tree
		for i, p := range place {
			if kind == api.Template && i%2 == 0 {
				p = "Str"
			}
			kids = append(kids, g.place(p, deep-1))
		}
		if t := node(kind, g.textOf(row), g.numOf(row), kids...); g.alike(t.Nodes, 0) {
			return t
		}
	}
}

// place is a tree that a place takes.
func (g grower) place(place string, deep int) api.Tree {
	if within, ok := strings.CutPrefix(place, "["); ok {
		var kids []api.Tree
		for range g.choose(3) * min(1, max(0, deep)) {
			kids = append(kids, g.place(strings.TrimSuffix(within, "]"), deep-1))
		}
		return node(api.List, "", 0, kids...)
	}
	x := pick(g, strings.Split(place, "/")...)
	switch x {
	case "any":
		return g.kind(lines()[g.choose(len(lines()))].kind, deep)
	case "E":
		x = g.word(expressions, "Num Str True False Null Undefined Name This SuperMember", deep)
	case "S":
		x = g.word(statements, "Break Continue Empty Block", deep)
	case "T":
		x = g.word(typeWords, "TypeNum TypeStr TypeName", deep)
	case "Named":
		if deep > 0 && g.choose(2) == 0 {
			return node(api.Member, "m", 0, g.place("Named", deep-1))
		}
		x = "Name"
	case "P", "VarLet", "VarConst", "EnumOpen":
		word := map[string]string{"P": "Param", "VarLet": "Var", "VarConst": "Var", "EnumOpen": "Enum"}[x]
		t := g.kind(g.kinds[word], deep)
		t.Nodes[0].Num = map[string]int{"P": g.choose(2), "VarConst": 1}[x]
		return t
	}
	return g.kind(g.kinds[x], deep)
}

// word is one of all words, or of the low ones, if it may not be deep any more.
func (g grower) word(all, low string, deep int) string {
	if deep <= 0 {
		all = low
	}
	return pick(g, strings.Fields(all)...)
}

// any is a tree of any kind, with places in a text.
func (g grower) any(deep int) api.Tree {
	t := g.place("any", deep)
	if g.choose(2) == 0 {
		t = g.kind(pick(g, api.Program, api.Namespace, api.Class, api.Func, api.Arrow, api.List, api.Object, api.TypeObject), deep)
	}
	for i := range t.Nodes {
		t.Nodes[i].At = g.choose(100)
	}
	return t
}

// spoil changes one thing of a tree; what comes out may be none.
func (g grower) spoil(t api.Tree) api.Tree {
	c := copied(t)
	if len(c.Nodes) == 0 {
		return c
	}
	n := g.choose(len(c.Nodes))
	x := &c.Nodes[n]
	switch g.choose(9) {
	case 0:
		x.Kind = pick(g, g.choose(90), -1, 99)
	case 1:
		x.Text = pick(g, "", "of", "a", "a.b", "+", "\xff", "=", "null")
	case 2:
		x.Num = pick(g, -1, 0, 1, 2, 4, 7, 8, api.MaxNumber+1)
	case 3:
		x.Kids = append(x.Kids, g.choose(len(c.Nodes)+2)-1)
	case 4:
		x.Kids = x.Kids[:g.choose(len(x.Kids)+1)]
	case 5, 6:
		if len(x.Kids) > 0 {
			x.Kids[g.choose(len(x.Kids))] = g.choose(len(c.Nodes)+2) - 1
		}
	case 7:
		other := g.choose(len(c.Nodes))
		c.Nodes[n], c.Nodes[other] = c.Nodes[other], c.Nodes[n]
	case 8:
		c.Nodes = slices.Insert(c.Nodes, g.choose(len(c.Nodes)+1), g.place("any", 0).Nodes...)
	}
	return c
}

// grown are trees of every sort, as the table takes them.
func grown(count, deep int) []api.Tree {
	g := newGrower(uint64(deep))
	var all []api.Tree
	for _, x := range lines() {
		for range 3 {
			all = append(all, g.kind(x.kind, 2))
		}
	}
	for range count {
		all = append(all, g.any(deep))
	}
	return all
}
