package print_test

import (
	"slices"
	"strings"
	"testing"

	"shuck/api"
	"shuck/lex"
	"shuck/print"
	"shuck/tree"
)

// chain is a tree of nodes one beneath the other: the head, so often, with nodes ahead of the kid that goes on, and behind it; the foot at the end.
func chain(count int, head api.Node, ahead, behind []api.Node, foot ...api.Node) api.Tree {
	var l []api.Node
	for range count {
		n := len(l)
		l = append(l, head)
		l[n].Kids = nil
		for _, x := range ahead {
			l[n].Kids = append(l[n].Kids, len(l))
			l = append(l, x)
		}
		l[n].Kids = append(l[n].Kids, len(l))
	}
	begin := len(l)
	for _, x := range foot {
		for i := range x.Kids {
			x.Kids[i] += begin
		}
		l = append(l, x)
	}
	width := 1 + len(ahead)
	for i := count - 1; i >= 0; i-- {
		for _, x := range behind {
			l[i*width].Kids = append(l[i*width].Kids, len(l))
			l = append(l, x)
		}
	}
	return api.Tree{Nodes: l}
}

const deepest = 1<<16 - 1

// nested is a text, so often, then a foot, and another text as often.
func nested(count int, ahead, foot, behind string) string {
	return strings.Repeat(ahead, count) + foot + strings.Repeat(behind, count)
}

// P6.1: as deep as trees may be.
func TestDeep(t *testing.T) {
	kind := func(k int) api.Node { return api.Node{Kind: k} }
	text := func(k int, s string) api.Node { return api.Node{Kind: k, Text: s} }
	a, list := text(api.Name, "a"), kind(api.List)
	for _, c := range []struct {
		x    api.Tree
		want string
	}{
		{chain(deepest, text(api.Unary, "!"), nil, nil, a), nested(deepest, "!", "a", "")},
		{chain(deepest, text(api.Unary, "typeof"), nil, nil, a), nested(deepest, "typeof ", "a", "")},
		{chain(deepest, text(api.Binary, "-"), nil, []api.Node{a}, a), nested(deepest, "", "a", " - a")},
		{chain(deepest, text(api.Binary, "-"), []api.Node{a}, nil, a), nested(deepest-1, "a - (", "a - a", ")")},
		{chain(deepest, text(api.Binary, "<"), nil, []api.Node{a}, a), nested(deepest, "", "a", " < a")},
		{chain(deepest, text(api.Binary, "<"), []api.Node{a}, nil, a), nested(deepest-1, "a < (", "a < a", ")")},
		{chain(deepest, kind(api.Cond), nil, []api.Node{a, a}, a), nested(deepest-1, "(", "a ? a : a", ") ? a : a")},
		{chain(deepest, kind(api.Cond), []api.Node{a, a}, nil, a), nested(deepest, "a ? a : ", "a", "")},
		{chain(deepest, text(api.Assign, "="), []api.Node{a}, nil, a), nested(deepest, "a = ", "a", "")},
		{chain(deepest, text(api.Member, "p"), nil, nil, a), nested(deepest, "", "a", ".p")},
		{chain(deepest, kind(api.Index), nil, []api.Node{a}, a), nested(deepest, "", "a", "[a]")},
		{chain(deepest, kind(api.Index), []api.Node{a}, nil, a), nested(deepest, "a[", "a", "]")},
		{chain(deepest, kind(api.Call), nil, []api.Node{list, list}, a), nested(deepest, "", "a", "()")},
		{chain(deepest, kind(api.Array), []api.Node{a}, []api.Node{a}, a), nested(deepest, "[a, ", "a", ", a]")},
		{chain(deepest, kind(api.Arrow), []api.Node{list, list}, nil, a), nested(deepest, "() => ", "a", "")},
		{chain(deepest, kind(api.Arrow), []api.Node{list, list}, nil, kind(api.Object)), nested(deepest, "() => ", "({})", "")},
		{chain(deepest, kind(api.Template), []api.Node{text(api.Str, "}")}, []api.Node{text(api.Str, "$")}, a), nested(deepest, "`}${", "a", "}\\$`")},
	} {
		got, e := print.Expr(c.x)
		if e != api.OK || got != c.want {
			t.Errorf("%.60q, %v, want %.60q", got, e, c.want)
		}
	}
	// An Object far beneath an Eval is still its first character.
	members := chain(deepest-2, text(api.Member, "p"), nil, nil, kind(api.Object))
	for i := range members.Nodes {
		for k := range members.Nodes[i].Kids {
			members.Nodes[i].Kids[k] += 2
		}
	}
	first := []api.Node{{Kind: api.Program, Kids: []int{1}}, {Kind: api.Eval, Kids: []int{2}}}
	got, e := print.Program(api.Tree{Nodes: append(first, members.Nodes...)})
	if want := nested(deepest-2, "", "({})", ".p") + ";\n"; e != api.OK || got != want {
		t.Errorf("%.60q, %v", got, e)
	}
}

// P6.1: Blocks and Ifs one within the other. (Deeper Blocks would have more blanks than a text may have bytes.)
func TestDeepStatements(t *testing.T) {
	const deep = 3000
	blocks := chain(deep, api.Node{Kind: api.Block}, nil, nil, api.Node{Kind: api.Empty})
	blocks.Nodes[0].Kind = api.Program
	var want strings.Builder
	for n := range deep - 1 {
		want.WriteString(strings.Repeat("  ", n) + "{\n")
	}
	want.WriteString(strings.Repeat("  ", deep-1) + ";\n")
	for n := deep - 2; n >= 0; n-- {
		want.WriteString(strings.Repeat("  ", n) + "}\n")
	}
	if got, e := print.Program(blocks); e != api.OK || got != want.String() {
		t.Errorf("%d bytes, %v, want %d", len(got), e, want.Len())
	}
	ifs := chain(deepest-1, api.Node{Kind: api.If}, []api.Node{{Kind: api.This}, {Kind: api.Block}}, nil, api.Node{Kind: api.Block})
	for i := range ifs.Nodes {
		for k := range ifs.Nodes[i].Kids {
			ifs.Nodes[i].Kids[k]++
		}
	}
	ifs.Nodes = append([]api.Node{{Kind: api.Program, Kids: []int{1}}}, ifs.Nodes...)
	if got, e := print.Program(ifs); e != api.OK || got != nested(deepest-1, "if (this) {} else ", "{}\n", "") {
		t.Errorf("%.60q, %v", got, e)
	}
}

// repeated is a Program of each text's statements, so often.
func repeated(t *testing.T, count int, texts ...string) api.Tree {
	t.Helper()
	var kids []api.Tree
	for _, text := range texts {
		var one []api.Tree
		x := program().read(t, text)
		for _, kid := range x.Nodes[0].Kids {
			y, _ := tree.Sub(x, kid)
			one = append(one, y)
		}
		kids = append(kids, slices.Repeat(one, count)...)
	}
	return tree.Make(api.Node{Kind: api.Program}, kids...)
}

// P6.1: texts that are longer than chapters 2 and 4 take are printed all the same, parentheses of the third reason too.
func TestLong(t *testing.T) {
	const count = 5000
	for _, texts := range [][]string{
		{"a;\n"}, {"f((a < b), c > (d = e));\n"}, {"`${a}b${(a < b) > (c = d)}`;\n"}, {"({}).p;\n({} < a) > (b = c);\n"},
		{"let x = () => {\n  (a < b) > (c = d);\n};\n"}, {"a < b;\n", "c > (d = e);\n"}, {"[a < b];\n", "c >> (d = e);\n"},
	} {
		want := ""
		for _, text := range texts {
			want += strings.Repeat(text, count)
		}
		if got, e := print.Program(repeated(t, count, texts...)); e != api.OK || got != want {
			t.Errorf("%q: %.100q, %v", texts, got, e)
		}
	}
	long := strings.Repeat("abcdefgh", api.MaxBytes/8+1)
	for _, c := range [][2]string{
		{"Name " + long, long},
		{"Str " + long, `"` + long + `"`},
		{"Template [Str " + long + ", Binary > [Binary < [a, b], Assign = [c, d]], Str " + long + ", a, Str " + long + "]", "`" + long + "${(a < b) > (c = d)}" + long + "${a}" + long + "`"},
		{"Array [Str " + long + ", Binary > [Binary < [a, b], Assign = [c, d]]]", `["` + long + `", (a < b) > (c = d)]`},
		{"Array [Template [Str " + long + ", a, Str x], Binary > [Binary < [a, b], Assign = [c, d]]]", "[`" + long + "${a}x`, (a < b) > (c = d)]"},
		{"Array [Template [Str x, a, Str " + long + "], Binary > [Binary < [a, b], Assign = [c, d]]]", "[`x${a}" + long + "`, (a < b) > (c = d)]"},
		{"Array [Binary < [" + long + ", b], Binary > [a, Assign = [c, d]]]", "[(" + long + " < b), a > (c = d)]"},
		{"Binary > [Binary < [a, b], Call [Str " + long + ", L, L [c]]]", `a < b > "` + long + `"(c)`},
		{"Binary > [Binary < [a, b], Call [" + long + ", L, L [c]]]", "a < b > " + long + "(c)"},
		{"Binary > [Binary < [a, b], Call [Template [Str " + long + "], L, L [c]]]", "a < b > `" + long + "`(c)"},
		{"Binary > [Binary < [a, b], Call [Template [Str x, c, Str " + long + "], L, L [c]]]", "a < b > `x${c}" + long + "`(c)"},
	} {
		if got, e := print.Expr(of(c[0])); e != api.OK || got != c[1] {
			t.Errorf("%.100q: %.100q, %v", c[0], got, e)
		}
	}
}

// P6.1: many signs `<` in one row, one in the other, are looked at in one go.
func TestManyLess(t *testing.T) {
	const count = 50000
	row := api.Tree{Nodes: []api.Node{{Kind: api.Array}}}
	for range count {
		n := len(row.Nodes)
		row.Nodes[0].Kids = append(row.Nodes[0].Kids, n)
		row.Nodes = append(row.Nodes, api.Node{Kind: api.Binary, Text: "<", Kids: []int{n + 1, n + 2}}, api.Node{Kind: api.Name, Text: "a"}, api.Node{Kind: api.Name, Text: "b"})
	}
	if got, e := print.Expr(row); e != api.OK || got != "["+strings.Repeat("a < b, ", count-1)+"a < b]" {
		t.Errorf("%.100q, %v", got, e)
	}
	less := func(foot ...api.Node) api.Tree {
		return chain(count, api.Node{Kind: api.Binary, Text: "<"}, []api.Node{{Kind: api.Name, Text: "a"}}, nil, foot...)
	}
	// a < (a < (.. ((a < b) > (c = d))))
	within := less(of("Binary > [Binary < [a, b], Assign = [c, d]]").Nodes...)
	if got, e := print.Expr(within); e != api.OK || got != nested(count, "a < (", "(a < b) > (c = d)", ")") {
		t.Errorf("%.100q, %v", got, e)
	}
	// a < (a < (.. ((a < b) > (c = d)) .. ) > (c = d)) > (c = d)
	each := api.Tree{}
	for n := range count {
		each.Nodes = append(each.Nodes, api.Node{Kind: api.Binary, Text: ">", Kids: []int{3*n + 1}}, api.Node{Kind: api.Binary, Text: "<", Kids: []int{3*n + 2, 3*n + 3}}, api.Node{Kind: api.Name, Text: "a"})
	}
	each.Nodes = append(each.Nodes, api.Node{Kind: api.Name, Text: "b"})
	for n := count - 1; n >= 0; n-- {
		at := len(each.Nodes)
		each.Nodes[3*n].Kids = append(each.Nodes[3*n].Kids, at)
		each.Nodes = append(each.Nodes, api.Node{Kind: api.Assign, Text: "=", Kids: []int{at + 1, at + 2}}, api.Node{Kind: api.Name, Text: "c"}, api.Node{Kind: api.Name, Text: "d"})
	}
	if got, e := print.Expr(each); e != api.OK || got != nested(count-1, "a < (", "(a < b) > (c = d)", ") > (c = d)") {
		t.Errorf("%.100q, %v", got, e)
	}
}

// P6.3: texts just as long, with as many tokens and as deep as chapters 2 and 4 take.
func TestBounds(t *testing.T) {
	bytes := "(a < b) > (c = " + strings.Repeat("d", api.MaxBytes-len("(a < b) > (c = );\n")) + ");\n"
	program().stays(t, bytes)
	tokens := strings.Repeat("f((a < b), c > (d = e));\n", api.MaxTokens/17) + strings.Repeat(";\n", api.MaxTokens%17)
	if l, _, e := lex.Tokens([]byte(tokens)); e != api.OK || len(l) != api.MaxTokens+1 {
		t.Fatal(len(l), e)
	}
	program().stays(t, tokens)
	expr().stays(t,
		nested(api.MaxDepth-1, "[", "(a < b) > (c = d)", "]"),
		nested(api.MaxDepth-1, "`${", "(a < b) > (c = d)", "}`"),
		nested(api.MaxDepth, "-[", "a", "]"),
	)
}
