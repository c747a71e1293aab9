package check_test

import (
	"fmt"
	"slices"
	"strings"
	"testing"

	"shuck/api"
	"shuck/bind"
)

// isFree tells whether a statement declares nothing that others see, and assigns to nothing of theirs.
func isFree(x api.Tree, n, end int) bool {
	if isOf(x.Nodes[n].Kind, "Var Func Class Enum Namespace Interface Alias") {
		return false
	}
	uses, _, _ := bind.Program(x)
	for _, u := range uses {
		isWithin := u.At > n && u.At < end
		if isWithin && u.Decl < n && slices.ContainsFunc(x.Nodes[n:end], func(a api.Node) bool { return a.Kind == api.Assign && a.Kids[0] == u.At }) {
			return false
		}
	}
	return true
}

// cut is a program without the last of its statements.
func cut(x api.Tree) api.Tree {
	kids := x.Nodes[0].Kids
	return turned(api.Tree{Nodes: x.Nodes[:kids[len(kids)-1]]}, func(l []api.Node) { l[0].Kids = kids[: len(kids)-1 : len(kids)-1] })
}

// P12.2: the types of expressions stay, whatever stands behind them that declares nothing, in programs by chance.
func TestNotByWhatStandsBehind(t *testing.T) {
	count := 0
	hold := func(x api.Tree) {
		for len(x.Nodes[0].Kids) > 1 {
			kids := x.Nodes[0].Kids
			if !isFree(x, kids[len(kids)-1], len(x.Nodes)) {
				return
			}
			less := cut(x)
			whole, ahead := program(t, x), program(t, less)
			if whole.Types != nil && ahead.Types != nil {
				count++
				for n, s := range ahead.Types {
					if n < len(less.Nodes) && whole.Types[n] != s {
						t.Fatalf("the node %d of %v is %q, without what stands behind it %q", n, x, whole.Types[n], s)
					}
				}
			}
			x = less
		}
	}
	g := newGrower(4)
	for n := range 200 {
		if text, x, ok := typedTree(uint64(4000+n), 3+n%7, 15); ok {
			hold(x)
			for _, more := range []string{"print(1 + {});", "throw 1; print(2);", "while (true) {}", "{ let zz: Nope = 1; interface O {} type U = O; }", "for (const zz of [1, \"\"]) { try { print(zz.x); } catch (e) { throw e; } }"} {
				hold(read(t, text+more))
			}
		}
		if x, ok := g.good(t, 3+n%4, map[string]int{}); ok {
			hold(x)
		}
	}
	if count < 500 {
		t.Errorf("only %d", count)
	}
}

// P12.2: one by one: behind a place, within a statement, a function, a loop.
func TestNotByWhatStandsBehindAPlace(t *testing.T) {
	for _, r := range [][3]string{
		{"Name", "function f(x: number | null) { print(@x); ", "null | number"},
		{"Name", "function f(x: number | null) { if (x === null) { return; } print(@x); ", "number"},
		{"Name", "let x = 1; { print(@x); ", "number"},
		{"Call", "function id<T>(x: T): T { return x; } { print(@id(1)); ", "number"},
	} {
		for _, behind := range []string{"", "print(1);", "throw 1;", "print(\"\" - 1);", "while (true) {}", "if (print()) { throw 2; }", "let y: Nope = 1;", "{ type T = 1; }", "const y = (z: string) => z;"} {
			hasTypes(t, typed{r[0], r[1] + behind + " }", r[2]})
		}
	}
}

// others are names that no program by chance has.
var others = []string{"z", "zz", "$", "_1", "constructor1", "undefined1", "prototype", "__proto__", "toString", "aaa"}

// renamable is the names that a program declares once and has in no other meaning, with all nodes that have them.
func renamable(x api.Tree) map[string][]int {
	type row struct {
		nodes    []int
		declared int
		other    bool
	}
	rows := map[string]*row{}
	for n, node := range x.Nodes {
		if node.Text == "" || isOf(node.Kind, "Str TypeStr Unary Binary Assign") {
			continue
		}
		for i, name := range strings.Split(node.Text, ".") {
			if rows[name] == nil {
				rows[name] = &row{}
			}
			r := rows[name]
			r.nodes = append(r.nodes, n)
			switch {
			case isOf(node.Kind, "Var Func Class Enum Namespace Param Catch ForOf Interface Alias TypeParam"):
				r.declared++
				r.other = r.other || node.Kind == api.Param && node.Num&^api.Optional != 0
			case isOf(node.Kind, "Name Base"), node.Kind == api.TypeName && i == 0:
			default:
				r.other = true
			}
		}
	}
	l := map[string][]int{}
	for name, r := range rows {
		if r.declared == 1 && !r.other {
			l[name] = r.nodes
		}
	}
	return l
}

// renamed is a program with another name in the place of one.
func renamed(x api.Tree, from, to string, nodes []int) api.Tree {
	return turned(x, func(l []api.Node) {
		for _, n := range nodes {
			names := strings.Split(l[n].Text, ".")
			if names[0] == from {
				names[0] = to
			}
			l[n].Text = strings.Join(names, ".")
		}
	})
}

// meansItself are the names that always mean themselves as types: what is declared by one of them is something else by another.
const meansItself = " number string any unknown never void boolean "

// P12.3: another name changes no verdict, in programs by chance.
func TestAnotherName(t *testing.T) {
	count, refused := 0, 0
	hold := func(x api.Tree) {
		want := program(t, x)
		uses, _, _ := bind.Program(x)
		for from, nodes := range renamable(x) {
			outside := func(u api.Use) bool { return u.Decl < 0 && slices.Contains(nodes, u.At) }
			if strings.Contains(meansItself, " "+from+" ") || slices.ContainsFunc(uses, outside) {
				continue
			}
			to := others[count%len(others)]
			if slices.ContainsFunc(x.Nodes, func(n api.Node) bool { return slices.Contains(strings.Split(n.Text, "."), to) }) {
				continue
			}
			if got := program(t, renamed(x, from, to, nodes)); got.Err != want.Err || got.Node != want.Node {
				t.Fatalf("%s is %s: %v, %d, not %v, %d: %v", from, to, got.Err, got.Node, want.Err, want.Node, x)
			}
			count++
			if want.Err == api.ErrType {
				refused++
			}
		}
	}
	g := newGrower(5)
	for n := range 150 {
		if _, x, ok := typedTree(uint64(6000+n), 1+n%7, 20); ok {
			hold(x)
		}
		if x, _, ok := g.bound(t, g.grow("Program", 3+n%4)); ok {
			hold(x)
		}
		if x, ok := g.good(t, 3+n%4, map[string]int{}); ok {
			hold(x)
		}
	}
	if count < 1000 || refused < 300 || count-refused < 100 {
		t.Errorf("only %d, %d of them refused", count, refused)
	}
}

// P12.3: names that stand in texts of types, in unions and their orders.
func TestAnotherNameInTypes(t *testing.T) {
	const text = "interface %[1]s<%[2]s> { a: %[2]s; n: %[1]s<%[2]s> | %[3]s | null } class %[3]s { b = 1; } enum %[4]s { X } function f<T>(x: %[1]s<T> | T, y: T | %[4]s | %[3]s): T { return 1 as any; } let v: %[3]s | %[4]s | %[1]s<1> = new %[3]s(); print(f(v, %[4]s.X)); let w: number = f(1, 2); let z: string = f(%[5]s, 3);"
	for _, last := range []string{"\"\"", "2"} {
		want := program(t, read(t, fmt.Sprintf(text, "A", "B", "C", "D", last)))
		for _, names := range [][4]string{{"D", "C", "B", "A"}, {"Z", "a1", "_", "$"}, {"b1", "Z", "z1", "A"}, {"q", "r", "s", "t"}} {
			if got := program(t, read(t, fmt.Sprintf(text, names[0], names[1], names[2], names[3], last))); got.Err != want.Err || got.Node != want.Node {
				t.Errorf("%v: %v, %d, not %v, %d", names, got.Err, got.Node, want.Err, want.Node)
			}
		}
	}
}
