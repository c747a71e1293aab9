package tree_test

import (
	"math"
	"strings"
	"testing"

	"shuck/api"
	"shuck/lex"
	"shuck/tree"
)

// same fails, unless Check answers that.
func same(t *testing.T, what string, x api.Tree, n int, e api.Errno) {
	t.Helper()
	if gotN, gotE := tree.Check(x); gotN != n || gotE != e {
		t.Errorf("%s: %d, %v; want %d, %v: %v", what, gotN, gotE, n, e, x.Nodes)
	}
}

// rooted fails, unless Check takes a tree or tells its root.
func rooted(t *testing.T, what string, x api.Tree, taken bool) {
	t.Helper()
	if taken {
		same(t, what, x, -1, api.OK)
	} else {
		same(t, what, x, 0, api.ErrTree)
	}
}

// least is a tree of a kind with as little as it may have.
func least(kind int) api.Tree {
	w := newWords()
	zero := grower{w, func(int) int { return 0 }}
	return zero.kind(kind, 0)
}

// samples are trees of all kinds, some of them in several forms: what kids are tried with.
func samples() []api.Tree {
	var all []api.Tree
	for _, x := range lines() {
		all = append(all, least(x.kind))
	}
	name, none, list := least(api.Name), least(api.None), least(api.List)
	for num := 1; num <= 7; num++ {
		all = append(all, node(api.Param, "p", num, none))
	}
	member := func(x api.Tree) api.Tree { return node(api.Member, "m", 0, x) }
	return append(all,
		node(api.Var, "v", api.Const, none, name),
		node(api.Enum, "e", api.Const),
		node(api.Template, "", 0, least(api.Str), name, least(api.Str)),
		member(name), member(member(name)), member(member(member(name))),
		member(least(api.This)), member(member(least(api.Bang))), member(node(api.Call, "", 0, name, list, list)),
		node(api.Index, "", 0, name, name),
		node(api.List, "", 0, name), node(api.List, "", 0, list), node(api.List, "", 0, none, name, list),
	)
}

// P3.1: each kind may be the root; what is no kind offends.
func TestKinds(t *testing.T) {
	w := newWords()
	for _, x := range lines() {
		same(t, x.word, least(x.kind), -1, api.OK)
	}
	for kind := -300; kind <= 300; kind++ {
		_, ok := w.rows[kind]
		x := api.Tree{Nodes: []api.Node{{Kind: kind}}}
		if !ok {
			same(t, "kind "+string(rune(kind)), x, 0, api.ErrTree)
		}
	}
	for _, kind := range []int{math.MinInt, math.MinInt32, math.MaxInt32, math.MaxInt, 1 << 32, 1<<32 + api.None, 1<<8 + api.None, -api.None} {
		same(t, "no kind", api.Tree{Nodes: []api.Node{{Kind: kind}}}, 0, api.ErrTree)
	}
	if len(lines()) != 3+25+28+8 {
		t.Errorf("%d rows", len(lines()))
	}
}

// texts are texts of every sort: names and what is nearly one, words, signs, bad bytes.
func texts() []string {
	all := []string{
		"", "a", "Z", "_", "$", "a1", "$_9z", "z0_", "1", "1a", "a b", " a", "a ", "a\n", "a-b", "a.b", "a.b.c", "A1.$._", ".", ".a", "a.", "a..b", "..", "a.1", "a. b", "a.é",
		"é", "aé", "ªa", "\xff", "a\xff", "a\xffb", "\x00", "a\x00", "\ufffd", "\xef\xbf", "\xed\xa0\x80", "\xc0\x80", "\xf4\x90\x80\x80", "\xf4\x8f\xbf\xbf", "\U0001f600", "é\n\r\t\"\\",
		"void", "any", "number", "Null", "NULL", "nul", "nulls", "True", "instanceof", "get", "async", "delete", "@", "[", "`", "{", "/", ":",
		"!", "-", "~", "typeof ", "!!", "--", "+ ", " +", "||", "&&", "|", "^", "&", "==", "===", "!=", "!==", "<", "<=", ">", ">=", "<<", ">>", ">>>", ">>>>", "+", "*", "**", "%",
		"=", "+=", "-=", "*=", "%=", "/=", "&=", "|=", "^=", "<<=", ">>=", "||=", "=>", "?", "++", ",", "??", "?.",
		"null.a", "a.null", "true.false", "null.null", "null ",
		strings.Repeat("a", api.MaxBytes+1), "a" + strings.Repeat("0", api.MaxBytes), strings.Repeat("a.", api.MaxBytes) + "b", strings.Repeat("a", api.MaxBytes) + "-", strings.Repeat("é", api.MaxBytes),
	}
	for _, word := range strings.Split(reserved, ", ") {
		all = append(all, word, word+"1", word+"$", "_"+word, "a."+word, word+".a", strings.ToUpper(word[:1])+word[1:], word[1:], word[:len(word)-1])
	}
	return all
}

// P3.1: the Text of each kind.
func TestTexts(t *testing.T) {
	w := newWords()
	for _, row := range lines() {
		x := least(row.kind)
		for _, s := range texts() {
			x.Nodes[0].Text = s
			what := row.word + " " + s[:min(len(s), 20)]
			rooted(t, what, x, w.text(row, s))
		}
	}
}

// P3.1: every byte, in a name's first place and behind it.
func TestBytes(t *testing.T) {
	const letters = "ABCDEFGHIJKLMNOPQRSTUVWXYZabcdefghijklmnopqrstuvwxyz_$"
	for c := range 256 {
		s := string([]byte{byte(c)})
		letter, digit := strings.Contains(letters, s), strings.Contains("0123456789", s)
		rooted(t, "first "+s, node(api.Name, s, 0), letter)
		rooted(t, "second "+s, node(api.Name, "q"+s, 0), letter || digit)
		rooted(t, "last "+s, node(api.Name, "q1"+s, 0), letter || digit)
		rooted(t, "of a type "+s, node(api.TypeName, "q"+s+"b", 0, least(api.List)), letter || digit || s == ".")
		rooted(t, "text "+s, node(api.Str, "a"+s, 0), c < 0x80)
	}
}

// P3.1: the words that are no names are those that chapter 2 has.
func TestReserved(t *testing.T) {
	all := texts()
	for a := 'a'; a <= 'z'; a++ {
		for b := 'a'; b <= 'z'; b++ {
			all = append(all, string(a)+string(b))
		}
	}
	for _, s := range all {
		if len(s) > api.MaxBytes {
			continue
		}
		l, _, e := lex.Tokens([]byte(s))
		isName := e == api.OK && len(l) == 2 && l[0].Kind == api.TokName && l[0].Text == s
		rooted(t, s, node(api.Name, s, 0), isName)
	}
}

// P3.1: the Num of each kind.
func TestNums(t *testing.T) {
	w := newWords()
	nums := []int{
		math.MinInt, -1 << 53, -api.MaxNumber - 1, -api.MaxNumber, -api.MaxNumber + 1, math.MinInt32, -8, -4, -2, -1, 0, 1, 2, 3, 4, 5, 6, 7, 8, 9, 12, 16, 255, 256, 257,
		math.MaxInt32, 1 << 32, 1<<32 + 1, api.MaxNumber - 1, api.MaxNumber, api.MaxNumber + 1, 1<<53 + 1, math.MaxInt,
	}
	for _, row := range lines() {
		x := least(row.kind)
		for _, n := range nums {
			x.Nodes[0].Num = n
			rooted(t, row.word, x, w.num(row, n))
		}
	}
}

// P3.1: how many kids each kind has.
func TestCounts(t *testing.T) {
	w := newWords()
	zero := grower{w, func(int) int { return 0 }}
	for _, row := range lines() {
		fields := strings.Fields(row.kids)
		for count := range 10 {
			_, ok := places(row, count)
			if row.kind == api.Template {
				ok = count%2 == 1
			}
			var kids []api.Tree
			for i := range count {
				place := "-"
				if len(fields) > 0 {
					place = strings.TrimSuffix(fields[min(i, len(fields)-1)], "*")
				}
				if row.kind == api.Template && i%2 == 0 {
					place = "Str"
				}
				kids = append(kids, zero.place(place, 0))
			}
			rooted(t, row.word, node(row.kind, least(row.kind).Nodes[0].Text, 0, kids...), ok)
		}
	}
}

// P3.1: each kid of each kind, tried with every kind.
func TestPlaces(t *testing.T) {
	w := newWords()
	zero := grower{w, func(int) int { return 0 }}
	for _, row := range lines() {
		for _, count := range []int{len(strings.Fields(row.kids)), 3, 5} {
			place, ok := places(row, count)
			if !ok {
				continue
			}
			for i := range place {
				for _, x := range samples() {
					var kids []api.Tree
					for j, p := range place {
						switch {
						case j == i:
							kids = append(kids, x)
						case row.kind == api.Template && j%2 == 0:
							kids = append(kids, least(api.Str))
						default:
							kids = append(kids, zero.place(p, 0))
						}
					}
					made := node(row.kind, least(row.kind).Nodes[0].Text, 0, kids...)
					rooted(t, row.word, made, w.fits(made.Nodes, 0))
				}
			}
		}
	}
}

// P3.1: a List's kids are looked at with it, by who has it.
func TestLists(t *testing.T) {
	w := newWords()
	zero := grower{w, func(int) int { return 0 }}
	for _, row := range lines() {
		place := strings.Fields(row.kids)
		for i, p := range place {
			if !strings.HasPrefix(p, "[") {
				continue
			}
			within := strings.Trim(p, "[]")
			good := zero.place(within, 0)
			for _, x := range samples() {
				for _, list := range [][]api.Tree{{x}, {x, good}, {good, x}, {good, x, good}, {good, good, x}} {
					var kids []api.Tree
					for j := range place {
						kids = append(kids, zero.place(place[j], 0))
					}
					kids[i] = node(api.List, "", 0, list...)
					rooted(t, row.word+" "+p, node(row.kind, least(row.kind).Nodes[0].Text, 0, kids...), w.takes(within, x.Nodes, 0) && (row.kind != api.Class || strings.Count(within, "Ctor") == 0 || x.Nodes[0].Kind != api.Ctor || good.Nodes[0].Kind != api.Ctor))
				}
			}
		}
	}
}

// P3.1: what the table asks of several kids together, and of kids that are one kind in some forms alone.
func TestTogether(t *testing.T) {
	name, none, list, str, block := node(api.Name, "x", 0), node(api.None, "", 0), node(api.List, "", 0), node(api.Str, "s", 0), node(api.Block, "", 0)
	class := func(members ...api.Tree) api.Tree {
		return node(api.Class, "c", 0, list, none, list, node(api.List, "", 0, members...))
	}
	field, method := node(api.Field, "f", 0, none, none), node(api.Method, "m", 0, list, list, none, block)
	param := func(num int) api.Tree { return node(api.List, "", 0, node(api.Param, "p", num, none)) }
	ctor := node(api.Ctor, "", 0, param(7), block)
	catch := node(api.Catch, "e", 0, block)
	template := func(kids ...api.Tree) api.Tree { return node(api.Template, "", 0, kids...) }
	member := func(x api.Tree) api.Tree { return node(api.Member, "m", 0, x) }
	made := func(x api.Tree) api.Tree { return node(api.New, "", 0, x, list, list) }
	for what, x := range map[string]struct {
		t     api.Tree
		taken bool
	}{
		"a class of nothing":         {class(), true},
		"a class of three":           {class(field, ctor, method), true},
		"a constructor alone":        {class(ctor), true},
		"a constructor behind":       {class(method, field, ctor), true},
		"two constructors":           {class(ctor, ctor), false},
		"two constructors apart":     {class(ctor, field, method, ctor), false},
		"three constructors":         {class(field, ctor, ctor, ctor), false},
		"a function's mark":          {node(api.Func, "f", 0, list, param(api.Optional), none, block), true},
		"a function's public":        {node(api.Func, "f", 0, list, param(api.Public), none, block), false},
		"a method's readonly":        {node(api.Method, "f", 0, list, param(api.Readonly), none, block), false},
		"an arrow's all":             {node(api.Arrow, "", 0, list, param(7), name), false},
		"a type's all":               {node(api.TypeFunc, "", 0, param(3), node(api.TypeNum, "", 1)), false},
		"a constructor's all":        {ctor, true},
		"try with nothing":           {node(api.Try, "", 0, block, none, none), false},
		"try with catch":             {node(api.Try, "", 0, block, catch, none), true},
		"try with finally":           {node(api.Try, "", 0, block, none, block), true},
		"try with both":              {node(api.Try, "", 0, block, catch, block), true},
		"a template of nothing":      {template(), false},
		"a template of a text":       {template(str), true},
		"a template of a name":       {template(name), false},
		"a template of two texts":    {template(str, str), false},
		"a template of three texts":  {template(str, str, str), true},
		"a template with a hole":     {template(str, name, str), true},
		"a template's end lacks":     {template(str, name, str, name), false},
		"a template's hole lacks":    {template(str, name, name), false},
		"a template's text lacks":    {template(name, str, str), false},
		"a template of two holes":    {template(str, template(str), str, name, str), true},
		"a template's hole is none":  {template(str, none, str), false},
		"a union of one":             {node(api.TypeUnion, "", 0, node(api.TypeNum, "", 1)), false},
		"a new name":                 {made(name), true},
		"a new member":               {made(member(name)), true},
		"a new member's member":      {made(member(member(name))), true},
		"a new member of a text":     {made(member(str)), false},
		"a new member of a call":     {made(member(member(node(api.Call, "", 0, name, list, list)))), false},
		"a new index":                {made(node(api.Index, "", 0, name, name)), false},
		"a new member of this":       {made(member(node(api.This, "", 0))), false},
		"an exported let":            {node(api.Export, "", 0, node(api.Var, "v", api.Let, none, name)), false},
		"an exported const":          {node(api.Export, "", 0, node(api.Var, "v", api.Const, none, name)), true},
		"an exported enum":           {node(api.Export, "", 0, node(api.Enum, "e", 0)), true},
		"an exported const enum":     {node(api.Export, "", 0, node(api.Enum, "e", api.Const)), false},
		"an exported export":         {node(api.Export, "", 0, node(api.Export, "", 0, node(api.Enum, "e", 0))), false},
		"for with let":               {node(api.For, "", 0, node(api.Var, "v", api.Let, none, name), none, none, block), true},
		"for with const":             {node(api.For, "", 0, node(api.Var, "v", api.Const, none, name), none, none, block), false},
		"for with nothing":           {node(api.For, "", 0, none, none, none, block), true},
		"a list of lists":            {node(api.List, "", 0, node(api.List, "", 0, node(api.Ctor, "", 0, param(7), block)), none), true},
		"a program of an expression": {node(api.Program, "", 0, name), false},
		"a program of an export":     {node(api.Program, "", 0, node(api.Export, "", 0, node(api.Enum, "e", 0))), false},
		"a namespace of an export":   {node(api.Namespace, "n", 0, node(api.Export, "", 0, node(api.Enum, "e", 0)), block), true},
	} {
		rooted(t, what, x.t, x.taken)
	}
}

// first is the first tree of the chapter's examples.
func first() api.Tree {
	return api.Tree{Nodes: []api.Node{{Kind: api.Program, Kids: []int{1}}, {Kind: api.Eval, Kids: []int{2}}, {Kind: api.Num, Num: 7}}}
}

// P3.1: the chapter's examples, and no node at all.
func TestCheckExamples(t *testing.T) {
	same(t, "the first", first(), -1, api.OK)
	same(t, "kids 2", turned(first(), func(l []api.Node) { l[0].Kids[0] = 2 }), 0, api.ErrTree)
	same(t, "a Prop", turned(first(), func(l []api.Node) { l[2].Kind = api.Prop }), 1, api.ErrTree)
	more := first()
	more.Nodes = append(more.Nodes, api.Node{Kind: api.None})
	same(t, "a node more", more, 3, api.ErrTree)
	same(t, "no node", api.Tree{}, 0, api.ErrTree)
	same(t, "no node, not nil", api.Tree{Nodes: []api.Node{}}, 0, api.ErrTree)
	same(t, "no node but room", api.Tree{Nodes: first().Nodes[:0]}, 0, api.ErrTree)
}

// P3.1: nil and empty Kids are the same, At is not looked at.
func TestCheckOverlooks(t *testing.T) {
	for _, x := range samples() {
		same(t, "a sample", turned(x, func(l []api.Node) {
			for i := range l {
				l[i].At = []int{-1, math.MinInt, math.MaxInt, 5}[i%4]
				if len(l[i].Kids) == 0 {
					l[i].Kids = make([]int, 0, i%2)
				}
			}
		}), -1, api.OK)
	}
}

// P3.1: which node offends first.
func TestOrderOfLooking(t *testing.T) {
	// f<T>(x, 1); Program 0, Eval 1, Call 2, Name 3, List 4, TypeName 5, List 6, List 7, Name 8, Num 9; then ; as Empty 10.
	call := node(api.Call, "", 0, node(api.Name, "f", 0), node(api.List, "", 0, node(api.TypeName, "T", 0, node(api.List, "", 0))), node(api.List, "", 0, node(api.Name, "x", 0), node(api.Num, "", 1)))
	program := node(api.Program, "", 0, node(api.Eval, "", 0, call), node(api.Empty, "", 0))
	same(t, "whole", program, -1, api.OK)
	for what, x := range map[string]struct {
		n int
		f func(l []api.Node)
	}{
		"a name's text":                    {3, func(l []api.Node) { l[3].Text = "of" }},
		"two texts":                        {3, func(l []api.Node) { l[3].Text, l[8].Text = "of", "of" }},
		"a text and a root's":              {0, func(l []api.Node) { l[0].Text, l[3].Text = "x", "of" }},
		"a list's text":                    {4, func(l []api.Node) { l[4].Text = "x" }},
		"a list's number":                  {7, func(l []api.Node) { l[7].Num = 1 }},
		"a list's kid's kind":              {2, func(l []api.Node) { l[5].Kind = api.Name }},
		"a later list's kid's kind":        {2, func(l []api.Node) { l[9].Kind = api.Prop }},
		"ahead of what stands beneath":     {2, func(l []api.Node) { l[3].Text = "of"; l[9].Kind = api.Prop }},
		"a kid's kid's list's kid":         {5, func(l []api.Node) { l[6].Kids = []int{3} }},
		"no kind in a list":                {2, func(l []api.Node) { l[8].Kind = 0 }},
		"no kind at all":                   {0, func(l []api.Node) { l[0].Kind = 0; l[1].Kind = 0 }},
		"a list's kid is outside":          {2, func(l []api.Node) { l[7].Kids[1] = 11 }},
		"a list's kid is below nought":     {2, func(l []api.Node) { l[7].Kids[1] = -1 }},
		"a kid is outside":                 {1, func(l []api.Node) { l[1].Kids[0] = 11 }},
		"a kid is below nought":            {1, func(l []api.Node) { l[1].Kids[0] = -1 }},
		"a kid is far outside":             {1, func(l []api.Node) { l[1].Kids[0] = math.MaxInt }},
		"a kid is far below":               {1, func(l []api.Node) { l[1].Kids[0] = math.MinInt }},
		"the root's last kid is outside":   {0, func(l []api.Node) { l[0].Kids[1] = 11; l[3].Text = "of" }},
		"a list's kid lies elsewhere":      {7, func(l []api.Node) { l[7].Kids[0] = 9 }},
		"a list's kids turned round":       {7, func(l []api.Node) { l[7].Kids = []int{9, 8} }},
		"a list's kid is left out":         {0, func(l []api.Node) { l[7].Kids = []int{8} }},
		"a list's first kid is left out":   {7, func(l []api.Node) { l[7].Kids = []int{9} }},
		"a list's kid twice":               {7, func(l []api.Node) { l[7].Kids = []int{8, 8, 9} }},
		"a list's last kid twice":          {7, func(l []api.Node) { l[7].Kids = []int{8, 9, 9} }},
		"the lists turned round":           {2, func(l []api.Node) { l[2].Kids = []int{3, 7, 4} }},
		"a list twice":                     {2, func(l []api.Node) { l[2].Kids = []int{3, 6, 7} }},
		"a kid too many":                   {2, func(l []api.Node) { l[2].Kids = []int{3, 4, 7, 8} }},
		"a kid too few":                    {2, func(l []api.Node) { l[2].Kids = []int{3, 4} }},
		"a place, behind what is beneath":  {3, func(l []api.Node) { l[2].Kids[2] = 6; l[3].Text = "of" }},
		"a place, ahead of what is behind": {2, func(l []api.Node) { l[2].Kids[1] = 6; l[9].Num = -1 }},
		"a kid that is the node itself":    {2, func(l []api.Node) { l[2].Kids[0] = 2 }},
		"a kid that is above":              {0, func(l []api.Node) { l[0].Kids[1] = 1 }},
		"a last statement left out":        {10, func(l []api.Node) { l[0].Kids = []int{1} }},
		"no statement":                     {1, func(l []api.Node) { l[0].Kids = nil }},
		"what is not beneath, worse":       {10, func(l []api.Node) { l[0].Kids = []int{1}; l[10].Kind = 99 }},
		"a wrong one ahead of what is not": {9, func(l []api.Node) { l[0].Kids = []int{1}; l[9].Num = -1 }},
	} {
		same(t, what, turned(program, x.f), x.n, api.ErrTree)
	}
}

// P3.1: kinds that have a mark in another's place: who has the place offends; else the node itself.
func TestOffendingMarks(t *testing.T) {
	none, list, block, name := node(api.None, "", 0), node(api.List, "", 0), node(api.Block, "", 0), node(api.Name, "x", 0)
	params := func(num int) api.Tree { return node(api.List, "", 0, node(api.Param, "p", num, none)) }
	same(t, "a function's", node(api.Func, "f", 0, list, params(9), none, block), 0, api.ErrTree)
	same(t, "a constructor's", node(api.Ctor, "", 0, params(9), block), 2, api.ErrTree)
	same(t, "a const that is neither", node(api.Export, "", 0, node(api.Var, "v", 2, none, name)), 0, api.ErrTree)
	same(t, "a let that is neither", node(api.For, "", 0, node(api.Var, "v", 2, none, name), none, none, block), 0, api.ErrTree)
	same(t, "an enum that is neither", node(api.Export, "", 0, node(api.Enum, "e", 2)), 1, api.ErrTree)
	same(t, "a List's kid of no kind", node(api.List, "", 0, node(99, "", 0)), 1, api.ErrTree)
	same(t, "a List's List's kid outside", api.Tree{Nodes: []api.Node{{Kind: api.List, Kids: []int{1}}, {Kind: api.List, Kids: []int{2}}}}, 1, api.ErrTree)
	same(t, "a List's kid outside", api.Tree{Nodes: []api.Node{{Kind: api.List, Kids: []int{1}}}}, 0, api.ErrTree)
}

// P3.1: of a New it is looked at what the Members are over.
func TestMembersOfNew(t *testing.T) {
	whole := node(api.New, "", 0, node(api.Member, "m", 0, node(api.Member, "k", 0, node(api.Name, "x", 0))), node(api.List, "", 0), node(api.List, "", 0))
	same(t, "whole", whole, -1, api.OK)
	for what, x := range map[string]struct {
		n int
		f func(l []api.Node)
	}{
		"over a text":             {0, func(l []api.Node) { l[3].Kind = api.Str }},
		"over nothing":            {0, func(l []api.Node) { l[2].Kids = nil }},
		"over a kid outside":      {0, func(l []api.Node) { l[2].Kids[0] = 6 }},
		"over a kid below nought": {0, func(l []api.Node) { l[2].Kids[0] = -1 }},
		"over itself":             {0, func(l []api.Node) { l[2].Kids[0] = 2 }},
		"over each other":         {0, func(l []api.Node) { l[2].Kids[0] = 1 }},
		"over the New":            {0, func(l []api.Node) { l[2].Kids[0] = 0 }},
		"a member's text":         {1, func(l []api.Node) { l[1].Text = "of" }},
		"a name's text":           {3, func(l []api.Node) { l[3].Text = "of" }},
		"a name elsewhere":        {1, func(l []api.Node) { l[1].Kids[0] = 3 }},
	} {
		same(t, what, turned(whole, x.f), x.n, api.ErrTree)
	}
}

// P3.1: kids that go round, deep trees, wide ones: Check ends.
func TestRoundAndDeep(t *testing.T) {
	for what, l := range map[string][]api.Node{
		"one round itself":   {{Kind: api.Bang, Kids: []int{0}}},
		"two round":          {{Kind: api.Bang, Kids: []int{1}}, {Kind: api.Bang, Kids: []int{0}}},
		"a list round":       {{Kind: api.List, Kids: []int{0}}},
		"a list of itself":   {{Kind: api.List, Kids: []int{0, 0, 0}}},
		"a call's list":      {{Kind: api.Super, Kids: []int{0}}},
		"a block round":      {{Kind: api.Block, Kids: []int{0}}},
		"members of nothing": {{Kind: api.New, Kids: []int{0, 0, 0}}},
	} {
		n, e := tree.Check(api.Tree{Nodes: l})
		if want := len(l) - 1; n != want || e != api.ErrTree {
			t.Errorf("%s: %d, %v", what, n, e)
		}
	}
	const deep = 1 << 20
	l := make([]api.Node, deep+1)
	for i := range deep {
		l[i] = api.Node{Kind: api.Bang, Kids: []int{i + 1}}
	}
	l[deep] = api.Node{Kind: api.Name, Text: "x"}
	same(t, "deep", api.Tree{Nodes: l}, -1, api.OK)
	if d := tree.Depth(api.Tree{Nodes: l}); d != deep {
		t.Error(d)
	}
	l[deep].Text = "of"
	if n, e := tree.Check(api.Tree{Nodes: l}); n != deep || e != api.ErrTree {
		t.Errorf("deep: %d, %v", n, e)
	}
	l[deep] = api.Node{Kind: api.Bang, Kids: []int{0}}
	if n, e := tree.Check(api.Tree{Nodes: l}); n != deep || e != api.ErrTree {
		t.Errorf("deep and round: %d, %v", n, e)
	}
	wide := []api.Node{{Kind: api.Array}}
	for i := range deep {
		wide[0].Kids = append(wide[0].Kids, i+1)
		wide = append(wide, api.Node{Kind: api.This})
	}
	same(t, "wide", api.Tree{Nodes: wide}, -1, api.OK)
	if d := tree.Depth(api.Tree{Nodes: wide}); d != 1 {
		t.Error(d)
	}
}

// P3.1: one kid of a tree, at every number.
func TestEveryKid(t *testing.T) {
	w := newWords()
	for _, x := range grown(60, 3) {
		if len(x.Nodes) > 60 {
			continue
		}
		same(t, "grown", x, -1, api.OK)
		for n := range x.Nodes {
			for i := range x.Nodes[n].Kids {
				for k := -1; k <= len(x.Nodes); k++ {
					bad := turned(x, func(l []api.Node) { l[n].Kids[i] = k })
					want, e := w.check(bad)
					same(t, "a kid elsewhere", bad, want, e)
				}
			}
		}
	}
}

// P3.1: trees that nobody thought of, and what is left of them when some things are changed.
func TestCheckGrown(t *testing.T) {
	w, g := newWords(), newGrower(7)
	for _, x := range grown(3000, 5) {
		same(t, "grown", x, -1, api.OK)
		for range 1 + g.choose(3) {
			x = g.spoil(x)
			want, e := w.check(x)
			same(t, "spoiled", x, want, e)
		}
	}
}
