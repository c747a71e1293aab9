package print_test

import (
	"slices"
	"strings"
	"testing"

	"shuck/api"
	"shuck/print"
	"shuck/tree"
)

// part is a tree and its text, which may be longer or deeper than chapters 2 and 4 take.
type part struct {
	x    api.Tree
	text string
}

// objects is {p: {p: .. b}}, so many one in the other.
func objects(deep int) part {
	x := api.Tree{}
	for range deep {
		n := len(x.Nodes)
		x.Nodes = append(x.Nodes, api.Node{Kind: api.Object, Kids: []int{n + 1}}, api.Node{Kind: api.Prop, Text: "p", Kids: []int{n + 2}})
	}
	x.Nodes = append(x.Nodes, of("b").Nodes...)
	return part{x, nested(deep, "{p: ", "b", "}")}
}

// letters is a Name of so many letters.
func letters(count int) part {
	name := strings.Repeat("b", count)
	return part{of(name), name}
}

// props is an Object with so many Props p: b.
func props(count int) part {
	all := slices.Repeat([]api.Tree{of("Prop p [b]")}, count)
	return part{tree.Make(api.Node{Kind: api.Object}, all...), "{" + strings.Repeat("p: b, ", count-1) + "p: b}"}
}

// long is a tree told in a line, and its text: # in both stands for letters, more of them than a text has bytes for chapter 2.
func long(line, text string) part {
	letters := strings.Repeat("b", api.MaxBytes+1)
	return part{of(strings.ReplaceAll(line, "#", letters)), strings.ReplaceAll(text, "#", letters)}
}

// types are expressions that are types too, up to the bounds and beyond them.
func types() []part {
	list, b := api.Node{Kind: api.List}, api.Node{Kind: api.Name, Text: "b"}
	all := []part{
		long(`Str #`, `"#"`), long("Member # [#]", "#.#"), long("Member # [Member b [a]]", "a.b.#"),
		long("Object [Prop # [#], Prop # [1]]", "{#: #, #: 1}"), long("Object [Prop p [Arrow [L, L [Param # [-], Param a [-]], #]]]", "{p: (#, a) => #}"),
		long("Arrow [L, L [Param # [-]], Block]", "(#) => {}"), long("Arrow [L, L, Object [Prop # [Str #]]]", `() => ({#: "#"})`), long("Binary | [#, Str #]", `# | "#"`),
		// deep with brackets and without
		{chain(5000, api.Node{Kind: api.Binary, Text: "|"}, []api.Node{b}, nil, b), nested(4999, "b | (", "b | b", ")")},
		{chain(9000, api.Node{Kind: api.Binary, Text: "|"}, nil, []api.Node{b}, b), nested(9000, "", "b", " | b")},
		{chain(9000, api.Node{Kind: api.Arrow}, []api.Node{list, list}, nil, b), nested(9000, "() => ", "b", "")},
		{chain(9000, api.Node{Kind: api.Member, Text: "p"}, nil, nil, b), nested(9000, "", "b", ".p")},
	}
	for _, deep := range []int{0, 1, 63, 64, 65, 66, 100, 1000, 10000} {
		all = append(all, objects(deep))
	}
	for _, count := range []int{1, 65529, 65532, 65533, 65536, 70000, 1 << 20} {
		all = append(all, letters(count))
	}
	for _, count := range []int{1, 2000, 2100, 3000, 10000} {
		all = append(all, props(count))
	}
	return all
}

// noTypes are as long and as deep, but somewhere no types.
func noTypes() []part {
	deep := objects(1000)
	last := len(deep.x.Nodes) - 1
	return []part{
		long("Binary + [#, b]", "# + b"), long("Unary ! [#]", "!#"), long("Call [#, L, L]", "#()"), long("Index [b, #]", "b[#]"), long("Array [#]", "[#]"),
		long("Template [Str #]", "`#`"), long("Template [Str #, b, Str #]", "`#${b}#`"), long("Member p [Str #]", `"#".p`), long("SuperMember #", "super.#"),
		long("New [#, L, L]", "new #()"), long("Object [Prop p [#], Prop p [This]]", "{p: #, p: this}"), long("Object [Prop p [Arrow [L, L, Unary - [#]]]]", "{p: () => -#}"),
		{chain(65, api.Node{Kind: api.Array}, nil, nil, of("b").Nodes...), nested(65, "[", "b", "]")},
		{turned(deep.x, func(l []api.Node) { l[last] = api.Node{Kind: api.This} }), strings.Replace(deep.text, "b", "this", 1)},
	}
}

// laid is a text in parentheses, if they are asked for.
func laid(text string, asked bool) string {
	if asked {
		return "(" + text + ")"
	}
	return text
}

// compared is a < x > (c ? d : e), with parentheses of the third reason or without.
func compared(x part, third bool) part {
	// Right of a `<` the level 9 is asked for.
	less := "a < " + laid(x.text, print.Level(x.x.Nodes[0]) < 9)
	left := tree.Make(api.Node{Kind: api.Binary, Text: "<"}, of("a"), x.x)
	return part{tree.Make(api.Node{Kind: api.Binary, Text: ">"}, left, of("Cond [c, d, e]")), laid(less, third) + " > (c ? d : e)"}
}

// listed is f(a < b, x, c > (d = e)), with parentheses of the third reason or without.
func listed(x part, third bool) part {
	args := tree.Make(api.Node{Kind: api.List}, of("Binary < [a, b]"), x.x, of("Binary > [c, Assign = [d, e]]"))
	return part{tree.Make(api.Node{Kind: api.Call}, of("f"), of("L"), args), "f(" + laid("a < b", third) + ", " + x.text + ", c > (d = e))"}
}

// lines is a Program with each of these as an Eval, and once more in the Block of a While.
func lines(l ...part) part {
	var evals []api.Tree
	once, deeper := "", ""
	for _, x := range l {
		evals = append(evals, tree.Make(api.Node{Kind: api.Eval}, x.x))
		once += x.text + ";\n"
		deeper += "  " + x.text + ";\n"
	}
	loop := tree.Make(api.Node{Kind: api.While}, of("True"), tree.Make(api.Node{Kind: api.Block}, evals...))
	return part{tree.Make(api.Node{Kind: api.Program}, append(evals, loop)...), once + "while (true) {\n" + deeper + "}\n"}
}

// array is an Array of these.
func array(l ...part) part {
	var kids []api.Tree
	var texts []string
	for _, x := range l {
		kids = append(kids, x.x)
		texts = append(texts, x.text)
	}
	return part{tree.Make(api.Node{Kind: api.Array}, kids...), "[" + strings.Join(texts, ", ") + "]"}
}

// prints holds trees against their texts, of which it shows the ends.
func (p printing) prints(t *testing.T, l ...part) {
	t.Helper()
	ends := func(s string) string { return s[:min(20, len(s))] + " .. " + s[max(0, len(s)-20):] }
	for _, x := range l {
		if got, e := p.call(x.x); e != api.OK || got != x.text {
			t.Errorf("%s: %v, %d bytes, %q, want %d bytes, %q", p.word, e, len(got), ends(got), len(x.text), ends(x.text))
		}
	}
}

// P6.1: the third reason has no bound of brackets, bytes or tokens.
func TestBeyondBounds(t *testing.T) {
	for _, x := range types() {
		one, other := compared(x, true), listed(x, true)
		expr().prints(t, one, other)
		program().prints(t, lines(one), lines(other))
	}
	for _, x := range noTypes() {
		one, other := compared(x, false), listed(x, false)
		expr().prints(t, one, other)
		program().prints(t, lines(one), lines(other))
	}
}

// P6.1: several signs `<` in one text, with types beyond the bounds behind each, one behind the other and one within the other.
func TestSeveralBeyondBounds(t *testing.T) {
	yes, no := types(), noTypes()
	var all []part
	for i, x := range yes {
		all = append(all, compared(x, true), listed(x, true), compared(no[i%len(no)], false))
	}
	program().prints(t, lines(all...))
	expr().prints(t, array(all...))
	deep, wide, name := objects(65), props(2100), letters(65533)
	// Each of the three behind a sign of its own, in lists and in each other's brackets.
	for _, l := range [][]part{{deep, wide, name}, {wide, name, deep}, {name, deep, wide}, {deep, deep, deep}, {wide, wide, wide}, {name, name, name}} {
		one, two, three := compared(l[0], true), compared(l[1], true), compared(l[2], true)
		expr().prints(t, array(one, two, three), array(one, array(two, array(three))), listed(array(one, two, three), false))
		program().prints(t, lines(one, two, three), lines(three, array(one, two)))
		// The TypeArgs of the first one go through all of them.
		expr().prints(t, listed3(l[0], l[1], l[2]))
	}
}

// listed3 is f((a < b), x, y, z, c > (d = e)).
func listed3(x, y, z part) part {
	args := tree.Make(api.Node{Kind: api.List}, of("Binary < [a, b]"), x.x, y.x, z.x, of("Binary > [c, Assign = [d, e]]"))
	return part{tree.Make(api.Node{Kind: api.Call}, of("f"), of("L"), args), "f((a < b), " + x.text + ", " + y.text + ", " + z.text + ", c > (d = e))"}
}

// P6.1: a row of signs `<` nests types deeper than the tree is, and is gone through all the same.
func TestRowOfTypes(t *testing.T) {
	const count = 100000
	row := func(last string) api.Tree {
		x := api.Tree{Nodes: []api.Node{{Kind: api.Array}}}
		add := func(l []api.Node) {
			at := len(x.Nodes)
			x.Nodes[0].Kids = append(x.Nodes[0].Kids, at)
			for _, n := range l {
				n.Kids = slices.Clone(n.Kids)
				for i := range n.Kids {
					n.Kids[i] += at
				}
				x.Nodes = append(x.Nodes, n)
			}
		}
		open, shut := of("Binary < [a, b]").Nodes, of("Binary > [c, Array]").Nodes
		for range count {
			add(open)
		}
		for range count - 1 {
			add(shut)
		}
		add(of(last).Nodes)
		return x
	}
	text := func(first, last string) string {
		return "[" + first + ", " + strings.Repeat("a < b, ", count-1) + strings.Repeat("c > [], ", count-1) + last + "]"
	}
	expr().prints(t,
		part{row("Binary > [c, Assign = [d, e]]"), text("(a < b)", "c > (d = e)")},
		part{row("Binary > [c, d]"), text("a < b", "c > d")},
		part{row("Binary >> [c, Assign = [d, e]]"), text("a < b", "c >> (d = e)")},
	)
}
