package erase_test

import (
	"testing"

	"shuck/api"
	"shuck/erase"
)

// deepest is how many parts may be nested.
const deepest = 1 << 16

// layer lays out nodes one behind the other.
type layer struct {
	l    []api.Node
	open []int // the nodes about the next one
}

// begin lays a node, beneath which the next ones stand; it is its number.
func (r *layer) begin(kind int, text string, num int) int {
	n := len(r.l)
	if len(r.open) > 0 {
		above := &r.l[r.open[len(r.open)-1]]
		above.Kids = append(above.Kids, n)
	}
	r.l = append(r.l, api.Node{Kind: kind, Text: text, Num: num})
	r.open = append(r.open, n)
	return n
}

// end ends so many nodes.
func (r *layer) end(count int) { r.open = r.open[:len(r.open)-count] }

// leaf lays a node beneath which nothing stands.
func (r *layer) leaf(kind int, text string) int {
	n := r.begin(kind, text, 0)
	r.end(1)
	return n
}

func (r *layer) lists(count int) {
	for range count {
		r.leaf(api.List, "")
	}
}

// enum lays an Enum with members of these names.
func (r *layer) enum(name string, mark int, members ...string) {
	r.begin(api.Enum, name, mark)
	for _, m := range members {
		r.begin(api.EnumMember, m, 0)
		r.leaf(api.None, "")
		r.end(1)
	}
	r.end(1)
}

// member lays a Member of a Name, and is the Name's number.
func (r *layer) member(name, member string) int {
	r.begin(api.Member, member, 0)
	n := r.leaf(api.Name, name)
	r.end(1)
	return n
}

// number lays a Num.
func (r *layer) number(n int) {
	r.begin(api.Num, "", n)
	r.end(1)
}

func newLayer() *layer {
	r := &layer{}
	r.begin(api.Program, "", 0)
	return r
}

// becomes fails, unless a tree is erased to another. (They are too great to be told, or to be looked at slowly.)
func (r *layer) becomes(t *testing.T, what string, want *layer) {
	t.Helper()
	x := api.Tree{Nodes: r.l}
	before := copied(x)
	left, n, e := erase.Program(x)
	if n != -1 || e != api.OK || !equal(left, api.Tree{Nodes: want.l}) {
		t.Errorf("%s: %d, %v, %d nodes, not %d", what, n, e, len(left.Nodes), len(want.l))
	}
	if !equal(x, before) {
		t.Errorf("%s: changed", what)
	}
}

// isRefused fails, unless that node is told.
func (r *layer) isRefused(t *testing.T, what string, want int) {
	t.Helper()
	if left, n, e := erase.Program(api.Tree{Nodes: r.l}); n != want || e != api.ErrType || len(left.Nodes) > 0 {
		t.Errorf("%s: %d, %v, not %d", what, n, e, want)
	}
}

// P13.1: Namespaces in one another, as deep as may be, each of which is exported.
func TestDeepNamespaces(t *testing.T) {
	const deep = deepest/2 - 3
	r, want := newLayer(), newLayer()
	for i := range deep {
		if i > 0 {
			r.begin(api.Export, "", 0)
		}
		r.begin(api.Namespace, "N", 0)
		want.begin(api.Var, "N", api.Const)
		want.leaf(api.None, "")
		want.begin(api.Call, "", 0)
		want.begin(api.Arrow, "", 0)
		want.lists(2)
		want.begin(api.Block, "", 0)
	}
	r.leaf(api.Empty, "")
	want.leaf(api.Empty, "")
	for i := range deep {
		want.begin(api.Return, "", 0)
		want.begin(api.Object, "", 0)
		if i > 0 {
			want.begin(api.Prop, "N", 0)
			want.leaf(api.Name, "N")
			want.end(1)
		}
		want.end(4)
		want.lists(2)
		want.end(2)
	}
	r.becomes(t, "deep Namespaces", want)
}

// P13.1: expressions as deep as may be over a member of a Const Enum.
func TestDeepExpressions(t *testing.T) {
	const deep = deepest - 6
	for kind, text := range map[int]string{api.Member: "m", api.Unary: "!", api.Array: "", api.Bang: "", api.As: ""} {
		r, want := newLayer(), newLayer()
		r.enum("E", api.Const, "A", "B")
		r.begin(api.Eval, "", 0)
		want.begin(api.Eval, "", 0)
		for range deep {
			r.begin(kind, text, 0)
			if kind != api.Bang && kind != api.As {
				want.begin(kind, text, 0)
			}
		}
		r.member("E", "B")
		want.number(1)
		for range deep {
			if kind == api.As {
				r.leaf(api.TypeNum, "")
			}
			r.end(1)
		}
		r.becomes(t, "deep expressions", want)
	}
	made := newLayer()
	made.enum("E", api.Const, "A", "B")
	made.begin(api.Eval, "", 0)
	made.begin(api.New, "", 0)
	for range deep - 1 {
		made.begin(api.Member, "m", 0)
	}
	name := made.member("E", "A")
	made.end(deep - 1)
	made.lists(2)
	made.isRefused(t, "made", name)
}

// P13.1: Blocks as deep as may be, each with a Const Enum of its own; Ctors within Ctors.
func TestDeepBlocks(t *testing.T) {
	const deep = deepest - 6
	r, want := newLayer(), newLayer()
	r.enum("F", api.Const, "A", "B")
	for range deep {
		r.begin(api.Block, "", 0)
		r.enum("E", api.Const, "A")
		r.begin(api.Eval, "", 0)
		r.member("F", "B")
		r.end(1)
		want.begin(api.Block, "", 0)
		want.begin(api.Eval, "", 0)
		want.number(1)
		want.end(1)
	}
	r.becomes(t, "deep Blocks", want)
	r, want = newLayer(), newLayer()
	for range deepest/4 - 3 {
		for _, x := range []*layer{r, want} {
			x.begin(api.Class, "C", 0)
			x.leaf(api.List, "")
			x.leaf(api.None, "")
			x.leaf(api.List, "")
			x.begin(api.List, "", 0)
			x.begin(api.Ctor, "", 0)
			x.begin(api.List, "", 0)
			x.begin(api.Param, "p", 0)
			x.leaf(api.None, "")
			x.end(2)
			x.begin(api.Block, "", 0)
		}
		r.l[len(r.l)-3].Num = api.Public
		want.assigned("p")
	}
	r.becomes(t, "deep Ctors", want)
}

// assigned lays the statement that makes a member of a Param.
func (r *layer) assigned(name string) {
	r.begin(api.Eval, "", 0)
	r.begin(api.Assign, "=", 0)
	r.begin(api.Member, name, 0)
	r.leaf(api.This, "")
	r.end(1)
	r.leaf(api.Name, name)
	r.end(2)
}

// nameOf is a name that no other number has.
func nameOf(n int) string {
	s := []byte("n")
	for ; n > 0; n /= 26 {
		s = append(s, byte('A'+n%26))
	}
	return string(s)
}

const wide = 50000

// P13.1: many Enums of both sorts, and their uses: one more takes no look at all the others.
func TestManyEnums(t *testing.T) {
	r, want := newLayer(), newLayer()
	for i := range wide {
		r.enum(nameOf(i), i%2, "A", "B")
		r.begin(api.Eval, "", 0)
		name := r.member(nameOf(i), "B")
		r.end(1)
		if i%2 == 0 {
			want.begin(api.Var, nameOf(i), api.Const)
			want.leaf(api.None, "")
			want.begin(api.Object, "", 0)
			for k, m := range []string{"A", "B"} {
				want.begin(api.Prop, m, 0)
				want.number(k)
				want.end(1)
			}
			want.end(2)
			want.begin(api.Eval, "", 0)
			want.member(nameOf(i), "B")
		} else {
			want.begin(api.Eval, "", 0)
			want.number(1)
		}
		want.end(1)
		if i == wide-1 {
			r.becomes(t, "many Enums", want)
			r.l[name-1].Text = "C"
			r.isRefused(t, "the last one", name)
		}
	}
}

// P13.1: many members of one Const Enum, and uses of each.
func TestManyMembers(t *testing.T) {
	r, want := newLayer(), newLayer()
	var members []string
	for i := range wide {
		members = append(members, nameOf(i))
	}
	r.enum("E", api.Const, members...)
	name := 0
	for i := range wide {
		r.begin(api.Eval, "", 0)
		name = r.member("E", nameOf(wide-1-i))
		r.end(1)
		want.begin(api.Eval, "", 0)
		want.number(wide - 1 - i)
		want.end(1)
	}
	r.becomes(t, "many members", want)
	r.l[name-1].Text = "m"
	r.isRefused(t, "no member", name)
	r.l[2*wide].Text = members[0] // the last EnumMember's, ahead of the uses
	r.isRefused(t, "a member of the same name", 2*wide)
}

// P13.1: many Exports, many Params that are members.
func TestManyNames(t *testing.T) {
	r, want := newLayer(), newLayer()
	r.begin(api.Namespace, "N", 0)
	want.begin(api.Var, "N", api.Const)
	want.leaf(api.None, "")
	want.begin(api.Call, "", 0)
	want.begin(api.Arrow, "", 0)
	want.lists(2)
	want.begin(api.Block, "", 0)
	for i := range wide {
		r.begin(api.Export, "", 0)
		for _, x := range []*layer{r, want} {
			x.begin(api.Var, nameOf(i), api.Const)
			x.leaf(api.None, "")
			x.leaf(api.Null, "")
			x.end(1)
		}
		r.end(1)
	}
	want.begin(api.Return, "", 0)
	want.begin(api.Object, "", 0)
	for i := range wide {
		want.begin(api.Prop, nameOf(i), 0)
		want.leaf(api.Name, nameOf(i))
		want.end(1)
	}
	want.end(4)
	want.lists(2)
	r.becomes(t, "many Exports", want)
	r, want = newLayer(), newLayer()
	for _, x := range []*layer{r, want} {
		x.begin(api.Class, "C", 0)
		x.leaf(api.List, "")
		x.leaf(api.None, "")
		x.leaf(api.List, "")
		x.begin(api.List, "", 0)
		x.begin(api.Ctor, "", 0)
		x.begin(api.List, "", 0)
		for i := range wide {
			n := x.begin(api.Param, nameOf(i), 0)
			if x == r {
				x.l[n].Num = api.Readonly
			}
			x.leaf(api.None, "")
			x.end(1)
		}
		x.end(1)
		x.begin(api.Block, "", 0)
	}
	for i := range wide {
		want.assigned(nameOf(i))
	}
	r.leaf(api.Empty, "")
	want.leaf(api.Empty, "")
	r.becomes(t, "many Params", want)
}
