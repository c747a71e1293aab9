package bind_test

import (
	"testing"

	"shuck/api"
)

// layer lays out nodes one behind the other.
type layer struct {
	l    []api.Node
	open []int // the nodes about the next one
}

// begin lays a node, beneath which the next ones stand; it is its number.
func (r *layer) begin(kind int, text string, num int) int {
	n := len(r.l)
	if len(r.open) > 0 {
		above := &r.l[r.open[len(r.open)-1]]
		above.Kids = append(above.Kids, n)
	}
	r.l = append(r.l, api.Node{Kind: kind, Text: text, Num: num})
	r.open = append(r.open, n)
	return n
}

// end ends so many nodes.
func (r *layer) end(count int) { r.open = r.open[:len(r.open)-count] }

// leaf lays a node beneath which nothing stands.
func (r *layer) leaf(kind int, text string) int {
	n := r.begin(kind, text, 0)
	r.end(1)
	return n
}

// variable lays a Var that is Let.
func (r *layer) variable(name string) int {
	n := r.begin(api.Var, name, api.Let)
	r.leaf(api.None, "")
	r.leaf(api.Null, "")
	r.end(1)
	return n
}

// use lays an Eval of a Name, and is the Name's number.
func (r *layer) use(name string) int {
	r.begin(api.Eval, "", 0)
	n := r.leaf(api.Name, name)
	r.end(1)
	return n
}

func (r *layer) lists(count int) {
	for range count {
		r.leaf(api.List, "")
	}
}

func newLayer() *layer {
	r := &layer{}
	r.begin(api.Program, "", 0)
	return r
}

// is fails, unless a tree's answer is that. (The trees are too great to be told, or to be looked at slowly.)
func (r *layer) is(t *testing.T, what string, uses []api.Use, n int, e api.Errno) {
	t.Helper()
	got, gotN, gotE := program(t, api.Tree{Nodes: r.l})
	if gotN != n || gotE != e || len(got) != len(uses) {
		t.Fatalf("%s: %d uses, %d, %v, want %d, %d, %v", what, len(got), gotN, gotE, len(uses), n, e)
	}
	for i := range got {
		if got[i] != uses[i] {
			t.Fatalf("%s: %v, want %v", what, got[i], uses[i])
		}
	}
}

const deepest = 1<<16 - 1

// P7.1: Blocks in one another, as deep as may be, each with a name of its own and one of the outermost; used ahead of the inner one and behind it.
func TestDeepBlocks(t *testing.T) {
	r := newLayer()
	first := r.variable("first")
	var ahead, behind []api.Use
	var own []int
	const deep = deepest - 3
	for range deep {
		r.begin(api.Block, "", 0)
		d := r.variable("own")
		own = append(own, d)
		ahead = append(ahead, api.Use{At: r.use("own"), Decl: d}, api.Use{At: r.use("first"), Decl: first}, api.Use{At: r.use("print"), Decl: -1})
	}
	for i := range deep {
		behind = append(behind, api.Use{At: r.use("input"), Decl: -1}, api.Use{At: r.use("own"), Decl: own[deep-1-i]}, api.Use{At: r.use("first"), Decl: first})
		r.end(1)
	}
	r.is(t, "deep Blocks", append(ahead, behind...), -1, api.OK)
	// What is declared nowhere, in the innermost one and in all behind it.
	r.l[ahead[len(ahead)-1].At].Text = "nobody"
	r.is(t, "nobody", nil, ahead[len(ahead)-1].At, api.ErrName)
}

// P7.1: functions in one another: everything that is outside is Late.
func TestDeepFunctions(t *testing.T) {
	const deep = deepest/2 - 2
	r := newLayer()
	first := r.variable("first")
	var uses []api.Use
	param := -1
	for range deep {
		// print => { .. } as an Eval would be three deep: an Arrow whose body is a Binary is two.
		if param < 0 {
			r.begin(api.Eval, "", 0)
		}
		r.begin(api.Arrow, "", 0)
		r.leaf(api.List, "")
		r.begin(api.List, "", 0)
		next := r.begin(api.Param, "p", 0)
		r.leaf(api.None, "")
		r.end(2)
		r.begin(api.Array, "", 0)
		uses = append(uses, api.Use{At: r.leaf(api.Name, "p"), Decl: next}, api.Use{At: r.leaf(api.Name, "first"), Decl: first, Late: true}, api.Use{At: r.leaf(api.Name, "last"), Late: true})
		param = next
	}
	r.end(2*deep + 1)
	last := r.variable("last")
	for i := range uses {
		if r.l[uses[i].At].Text == "last" {
			uses[i].Decl = last
		}
	}
	r.is(t, "deep Arrows", uses, -1, api.OK)
}

// P7.1: Namespaces in one another, each of which is too early for itself; and a Break far from its loop.
func TestDeepNamespaces(t *testing.T) {
	const deep = deepest - 3
	r := newLayer()
	var uses []api.Use
	for range deep {
		r.begin(api.Namespace, "N", 0)
		uses = append(uses, api.Use{At: r.use("print"), Decl: -1})
	}
	name := r.use("print")
	r.end(deep)
	n := r.use("N")
	uses = append(uses, api.Use{At: name, Decl: -1}, api.Use{At: n, Decl: 1})
	r.is(t, "deep Namespaces", uses, -1, api.OK)
	r.l[name].Text = "N"
	r.is(t, "too early", nil, name, api.ErrName)
}

// P7.1: loops, classes and functions in one another: what the place of a node is does not hang on how deep it stands.
func TestDeepPlaces(t *testing.T) {
	const deep = deepest/3 - 2
	r := newLayer()
	var stops []int
	for range deep {
		r.begin(api.While, "", 0)
		r.leaf(api.Null, "")
		r.begin(api.Block, "", 0)
		stops = append(stops, r.leaf(api.Break, ""))
		r.begin(api.If, "", 0)
		r.leaf(api.Null, "")
		r.begin(api.Block, "", 0)
		stops = append(stops, r.leaf(api.Continue, ""))
		r.end(1)
		r.leaf(api.None, "")
		r.end(1)
	}
	r.end(2 * deep)
	r.is(t, "deep loops", nil, -1, api.OK)
	last := r.leaf(api.Break, "")
	r.is(t, "behind them", nil, last, api.ErrName)
	classes := newLayer()
	for range deepest/5 - 1 {
		classes.begin(api.Class, "C", 0)
		classes.leaf(api.List, "")
		classes.leaf(api.None, "")
		classes.leaf(api.List, "")
		classes.begin(api.List, "", 0)
		classes.begin(api.Method, "m", 0)
		classes.lists(2)
		classes.leaf(api.None, "")
		classes.begin(api.Block, "", 0)
		classes.begin(api.Eval, "", 0)
		classes.leaf(api.This, "")
		classes.end(1)
	}
	classes.is(t, "deep classes", nil, -1, api.OK)
	classes.begin(api.Eval, "", 0)
	super := classes.leaf(api.SuperMember, "m")
	classes.is(t, "no Base", nil, super, api.ErrName)
}

// P7.1: expressions as deep as may be.
func TestDeepExpressions(t *testing.T) {
	const deep = deepest - 3
	for kind, text := range map[int]string{api.Member: "m", api.Unary: "!", api.Bang: "", api.Array: ""} {
		r := newLayer()
		d := r.variable("a")
		r.begin(api.Eval, "", 0)
		for range deep {
			r.begin(kind, text, 0)
		}
		u := r.leaf(api.Name, "a")
		r.is(t, "deep", []api.Use{{At: u, Decl: d}}, -1, api.OK)
		r.l[u].Text = "b"
		r.is(t, "deep", nil, u, api.ErrName)
	}
	r := newLayer()
	f := r.begin(api.Var, "f", api.Const)
	r.leaf(api.None, "")
	for range deep {
		r.begin(api.Arrow, "", 0)
		r.lists(2)
	}
	u := r.leaf(api.Name, "f")
	r.is(t, "a deep function", []api.Use{{At: u, Decl: f, Late: true}}, -1, api.OK)
	types := newLayer()
	types.begin(api.Alias, "T", 0)
	types.leaf(api.List, "")
	for range deep {
		types.begin(api.TypeArray, "", 0)
	}
	types.leaf(api.TypeNum, "")
	types.end(deep + 1)
	u = types.use("print")
	types.is(t, "a deep type", []api.Use{{At: u, Decl: -1}}, -1, api.OK)
}

// nameOf is a name that no other number has.
func nameOf(n int) string {
	s := []byte("n")
	for ; n > 0; n /= 26 {
		s = append(s, byte('A'+n%26))
	}
	return string(s)
}

// P7.1: as wide as one likes: many declarations and uses in one scope, many scopes beside each other.
func TestWide(t *testing.T) {
	const wide = 50000
	r := newLayer()
	var uses []api.Use
	var declared []int
	for i := range wide {
		declared = append(declared, r.variable(nameOf(i)))
	}
	for i := range wide {
		uses = append(uses, api.Use{At: r.use(nameOf(i)), Decl: declared[i]}, api.Use{At: r.use("print"), Decl: -1}, api.Use{At: r.use("f"), Decl: 0})
	}
	for i := range wide {
		r.begin(api.Block, "", 0)
		d := r.variable(nameOf(i))
		uses = append(uses, api.Use{At: r.use(nameOf(i)), Decl: d}, api.Use{At: r.use(nameOf(i + 1)), Decl: declared[(i+1)%wide]})
		r.end(1)
	}
	// The last Block's second name is none of the first.
	uses[len(uses)-1].Decl = r.variable(nameOf(wide))
	early := uses[len(uses)-1].At
	f := r.begin(api.Func, "f", 0)
	r.leaf(api.List, "")
	r.begin(api.List, "", 0)
	for i := range wide {
		r.begin(api.Param, nameOf(i), 0)
		r.leaf(api.None, "")
		r.end(1)
	}
	r.end(1)
	r.leaf(api.None, "")
	r.begin(api.Block, "", 0)
	for i := range uses {
		if r.l[uses[i].At].Text == "f" {
			uses[i].Decl = f
		}
	}
	r.is(t, "too early", nil, early, api.ErrName)
	r.l[early].Text = "print"
	uses[len(uses)-1].Decl = -1
	r.is(t, "wide", uses, -1, api.OK)
	twice := r.variable(nameOf(wide / 2))
	r.is(t, "wide", nil, twice, api.ErrName)
}
