package check_test

import (
	"fmt"
	"strings"
	"testing"

	"shuck/api"
	"shuck/check"
)

// deepest is how many parts may be nested in one another.
const deepest = 1 << 16

// over is a tree of so many times the nodes of head, each with the next ones as its last kid, about tail; their Kids are counted from their own beginning on.
func over(count int, head, tail []api.Node) []api.Node {
	l := make([]api.Node, 0, count*len(head)+len(tail))
	put := func(nodes []api.Node) {
		from := len(l)
		for _, n := range nodes {
			kids := make([]int, len(n.Kids))
			for i, kid := range n.Kids {
				kids[i] = kid + from
			}
			n.Kids = kids
			l = append(l, n)
		}
	}
	for range count {
		put(head)
	}
	put(tail)
	return l
}

// under is a Program of one statement, or of one Eval of an expression.
func under(nodes []api.Node, heads ...api.Node) api.Tree {
	heads = append([]api.Node{{Kind: api.Program}}, heads...)
	for i := range heads {
		heads[i].Kids = []int{i + 1}
	}
	by := len(heads)
	for i := range nodes {
		for j := range nodes[i].Kids {
			nodes[i].Kids[j] += by
		}
	}
	return api.Tree{Nodes: append(heads, nodes...)}
}

func kid(kind int, text string, kids ...int) api.Node {
	return api.Node{Kind: kind, Text: text, Kids: kids}
}

// verdict fails, unless a program's verdict is that.
func verdict(t *testing.T, what string, x api.Tree, e api.Errno, n int) api.Checked {
	t.Helper()
	c := check.Program(x)
	if c.Err != e || c.Node != n {
		t.Errorf("%s: %v, %d, not %v, %d", what, c.Err, c.Node, e, n)
	}
	return c
}

// P12.1: statements and expressions as deep as they may be.
func TestDeep(t *testing.T) {
	eval := kid(api.Eval, "")
	null, list, none := kid(api.Null, ""), kid(api.List, ""), kid(api.None, "")
	name := kid(api.Name, "print")
	const deep = deepest - 10
	verdict(t, "Blocks", under(over(deep, []api.Node{kid(api.Block, "", 1)}, []api.Node{kid(api.Empty, "")})), api.OK, -1)
	verdict(t, "Nots", under(over(deep, []api.Node{kid(api.Unary, "!", 1)}, []api.Node{null}), eval), api.OK, -1)
	verdict(t, "Bangs", under(over(deep, []api.Node{kid(api.Bang, "", 1)}, []api.Node{null}), eval), api.OK, -1)
	verdict(t, "signs", under(over(deep, []api.Node{kid(api.Unary, "-", 1)}, []api.Node{null}), eval), api.ErrType, deep+2)
	verdict(t, "sums", under(over(deep, []api.Node{kid(api.Binary, "+", 1, 2), kid(api.Str, "a")}, []api.Node{null}), eval), api.OK, -1)
	verdict(t, "choices", under(over(deep, []api.Node{kid(api.Binary, "&&", 1, 2), name}, []api.Node{null}), eval), api.OK, -1)
	verdict(t, "Conds", under(over(deep, []api.Node{kid(api.Cond, "", 1, 2, 3), null, null}, []api.Node{null}), eval), api.OK, -1)
	verdict(t, "Ifs", under(over(deep, []api.Node{kid(api.If, "", 1, 2, 3), null, kid(api.Block, "")}, []api.Node{kid(api.Block, "")})), api.OK, -1)
	verdict(t, "Whiles", under(over(deep/2, []api.Node{kid(api.While, "", 1, 2), name, kid(api.Block, "", 3)}, []api.Node{kid(api.Break, "")})), api.OK, -1)
	verdict(t, "Trys", under(over(deep/2, []api.Node{kid(api.Try, "", 1, 2, 3), kid(api.Block, ""), none, kid(api.Block, "", 4)}, []api.Node{kid(api.Throw, "", 1), null})), api.OK, -1)
	verdict(t, "Namespaces", under(over(deep, []api.Node{kid(api.Namespace, "N", 1)}, []api.Node{kid(api.Empty, "")})), api.OK, -1)
	verdict(t, "Funcs", under(over(deep/2, []api.Node{kid(api.Func, "f", 1, 2, 3, 4), list, list, none, kid(api.Block, "", 5)}, []api.Node{kid(api.Return, "", 1), none})), api.OK, -1)
	verdict(t, "Classes", under(over(deep/4, []api.Node{kid(api.Class, "C", 1, 2, 3, 4), list, none, list, kid(api.List, "", 5), kid(api.Method, "m", 6, 7, 8, 9), list, list, none, kid(api.Block, "", 10)}, []api.Node{kid(api.Empty, "")})), api.OK, -1)
	verdict(t, "Calls", under(over(deep/2, []api.Node{kid(api.Call, "", 1, 2, 3), name, list, kid(api.List, "", 4)}, []api.Node{null}), eval), api.OK, -1)
	verdict(t, "Members", under(over(deep, []api.Node{kid(api.Member, "a", 1)}, []api.Node{null}), eval), api.ErrType, deep+1)
	// What grows with its depth is too complex.
	verdict(t, "Arrays", under(over(deep, []api.Node{kid(api.Array, "", 1)}, []api.Node{null}), eval), api.ErrComplex, 0)
	verdict(t, "Arrows", under(over(deep, []api.Node{kid(api.Arrow, "", 1, 2, 3), list, list}, []api.Node{null}), eval), api.ErrComplex, 0)
	verdict(t, "TypeArrays", under(append([]api.Node{kid(api.Alias, "A", 1, 2), list}, shifted(2, over(deep, []api.Node{kid(api.TypeArray, "", 1)}, []api.Node{kid(api.TypeNum, "")}))...)), api.ErrComplex, 0)
	verdict(t, "Lists", under(append([]api.Node{kid(api.Alias, "A", 1, 2), list}, shifted(2, over(deep/2, []api.Node{kid(api.TypeName, "A", 1), kid(api.List, "", 2)}, []api.Node{kid(api.TypeNum, "")}))...)), api.ErrType, 3)
}

// shifted is nodes whose Kids are moved along.
func shifted(by int, nodes []api.Node) []api.Node {
	for i := range nodes {
		for j := range nodes[i].Kids {
			nodes[i].Kids[j] += by
		}
	}
	return nodes
}

// P12.1: names of types far below where they are declared.
func TestDeepNames(t *testing.T) {
	const deep = deepest/2 - 10
	list := kid(api.List, "")
	head := []api.Node{kid(api.Block, "", 1, 5), kid(api.Var, "a", 2, 4), kid(api.TypeName, "T", 3), list, kid(api.Num, "")}
	x := under(over(deep, head, []api.Node{kid(api.Alias, "T", 1, 2), list, kid(api.TypeNum, "")}))
	verdict(t, "TypeNames", x, api.ErrType, 3)
	x.Nodes[0].Kids = []int{1, len(x.Nodes)}
	x.Nodes = append(x.Nodes, shifted(len(x.Nodes), []api.Node{kid(api.Alias, "T", 1, 2), list, kid(api.TypeNum, "")})...)
	verdict(t, "TypeNames", x, api.OK, -1)
}

// long is a text of so many lines, by their numbers.
func long(count int, line string) string {
	var b strings.Builder
	for i := range count {
		b.WriteString(strings.NewReplacer("#", fmt.Sprint(i), "~", fmt.Sprint(i+1)).Replace(line))
	}
	return b.String()
}

// P12.1: programs that are long, not deep: each is held within a short time by what it is made to be.
func TestLong(t *testing.T) {
	for _, r := range []struct {
		text string
		want api.Errno
	}{
		{"let x: string | null = input(); print(x" + strings.Repeat(" && x", 4000) + ");", api.OK},
		{"let x: 1 | 2 | null = 1 as any; print(x" + strings.Repeat(" && x !== 1", 1900) + ");", api.OK},
		{"let x: 1 | 2 | null = 1 as any; print(" + strings.Repeat("x === 1 || ", 1900) + "x);", api.OK},
		{long(350, "let v#: number | string = 1; if (v# === 1) { v# = 2; }"), api.OK},
		{"class C0 { m0() {} } " + long(400, "class C~ extends C# { m~() {} }") + "new C400().m0();", api.OK},
		{"interface C0 { m0: 1 } " + long(400, "interface C~ extends C# { m~: 1 }") + "function f(c: C400) { c.m0; }", api.OK},
		{long(400, "interface C# extends C~ { m#: 1 }") + "interface C400 {}", api.OK},
		{long(400, "interface C# extends C~ { m#: 1 }") + "interface C400 extends C0 {}", api.ErrType},
		{long(1500, "type A# = A~;") + "type A1500 = 1; let x: A0 = 1;", api.OK},
		{long(1500, "type A# = A~;") + "type A1500 = A0;", api.ErrType},
		{"let x = 1;" + strings.Repeat("x = x + 1;", 1300), api.OK},
		{long(1000, "enum E# { A }"), api.OK},
		{"enum E {" + long(2000, "A#,") + "} print(E.A1999);", api.OK},
		{"class C {" + long(1500, "m#: 1;") + "} function f(c: C) {" + long(300, "c.m#;") + "}", api.OK},
		{"namespace N {" + long(800, "export const c# = #;") + "} print(N.c799);", api.OK},
		{"function f(x: 1 | null) {" + strings.Repeat("while (x) {", 60) + strings.Repeat("x; x = null;", 600) + strings.Repeat("}", 60) + "}", api.OK},
		{"let f = 1; print(" + strings.Repeat("() => ", 400) + "f);", api.OK},
		{"let f = 1; print(" + strings.Repeat("() => ", 500) + "f);", api.ErrComplex},
	} {
		x := read(t, r.text)
		if c := check.Program(x); c.Err != r.want {
			t.Errorf("%.60s..: %v, %d, not %v", r.text, c.Err, c.Node, r.want)
		}
	}
}

// P12.1: types that lead to each other in all orders of their parts: matching ends, and finds what there is to find.
func TestManyMatched(t *testing.T) {
	for _, count := range []int{3, 5, 12} {
		var names, round, swapped, all []string
		for i := range count {
			names, round, all = append(names, fmt.Sprintf("T%d", i)), append(round, fmt.Sprintf("T%d", (i+1)%count)), append(all, "number")
		}
		swapped = append([]string{"T1", "T0"}, names[2:]...)
		list := func(l []string) string { return "<" + strings.Join(l, ", ") + ">" }
		members := func(name string) string {
			return "interface " + name + list(names) + " { v: T0; x: " + name + list(round) + "; y: " + name + list(swapped) + " } "
		}
		text := members("I") + members("J") + "function f<Y, Z, " + list(names)[1:] + "(i: I" + list(names) + ", y: Y): {z: Z; t: T0; y: Y} { throw 1; } function g(j: J" + list(all) + ") { print(@f(j, \"\")); }"
		plain, at := marked(t, text)
		x := read(t, plain)
		c := check.Program(x)
		if got := c.Types[one(t, x, at, "Call")]; c.Err != api.OK || got != "{t: number; y: string; z: unknown}" {
			t.Errorf("%d: %v, %d, %q", count, c.Err, c.Node, got)
		}
	}
}
