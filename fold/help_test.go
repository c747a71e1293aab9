package fold_test

import (
	"reflect"
	"slices"
	"testing"

	"shuck/api"
	"shuck/fold"
	"shuck/parse"
	"shuck/tree"
)

// program is the tree of a text.
func program(t *testing.T, text string) api.Tree {
	t.Helper()
	x, at, e := parse.Program([]byte(text))
	if e != api.OK {
		t.Fatalf("%q: %d, %v", text, at, e)
	}
	return x
}

// expr is the tree of an expression's text.
func expr(t *testing.T, text string) api.Tree {
	t.Helper()
	x, at, e := parse.Expr([]byte(text))
	if e != api.OK {
		t.Fatalf("%q: %d, %v", text, at, e)
	}
	return x
}

// node is a tree of a root and what stands beneath it.
func node(kind int, text string, num int, kids ...api.Tree) api.Tree {
	return tree.Make(api.Node{Kind: kind, Text: text, Num: num}, kids...)
}

// number is a Num; of one below 0 a Unary over it.
func number(n int) api.Tree {
	if n < 0 {
		return node(api.Unary, "-", 0, number(-n))
	}
	return node(api.Num, "", n)
}

func both(sign string, a, b api.Tree) api.Tree { return node(api.Binary, sign, 0, a, b) }

func none() api.Tree { return node(api.None, "", 0) }

// first is the first node of a kind beneath the root.
func first(t *testing.T, x api.Tree, kind int) int {
	t.Helper()
	for n := range tree.Find(x, 0, kind) {
		return n
	}
	t.Fatalf("no node of the kind %d in %v", kind, x)
	return 0
}

// roomy is a tree with room behind each list, and something in it.
func roomy(x api.Tree) api.Tree {
	l := slices.Clone(x.Nodes)
	for i := range l {
		kids := append(slices.Clone(l[i].Kids), -77, -78, -79)
		l[i].Kids = kids[:len(kids)-3]
	}
	l = append(l, api.Node{Kind: -77, Text: "behind", Kids: []int{-7}}, api.Node{Kind: -78})
	return api.Tree{Nodes: l[:len(l)-2]}
}

// everything is all that a tree's lists have, their room too.
func everything(x api.Tree) []api.Node {
	l := slices.Clone(x.Nodes[:cap(x.Nodes)])
	for i := range l {
		l[i].Kids = slices.Clone(l[i].Kids[:cap(l[i].Kids)])
	}
	return l
}

// spoilAll makes something else of all that a tree's lists have, their room too.
func spoilAll(x api.Tree) {
	l := x.Nodes[:cap(x.Nodes)]
	for i := range l {
		kids := l[i].Kids[:cap(l[i].Kids)]
		for j := range kids {
			kids[j] = -1000 - i
		}
		l[i] = api.Node{Kind: -1000 - i, Text: "spoiled", Num: -5, At: -6}
	}
}

// turned is a tree with something changed.
func turned(x api.Tree, f func(l []api.Node)) api.Tree {
	l := slices.Clone(x.Nodes)
	for i := range l {
		l[i].Kids = slices.Clone(l[i].Kids)
	}
	f(l)
	return api.Tree{Nodes: l}
}

// answer is what Members answers.
type answer struct {
	members []api.Constant
	node    int
	err     api.Errno
}

func (a answer) is(b answer) bool {
	return a.node == b.node && a.err == b.err && slices.Equal(a.members, b.members)
}

// asked is what Value answers, twice the same, of what is the same behind it.
func asked(t *testing.T, x api.Tree, n int) (int, api.Errno) {
	t.Helper()
	y := roomy(x)
	before := everything(y)
	v, e := fold.Value(y, n)
	again, e2 := fold.Value(y, n)
	if !reflect.DeepEqual(everything(y), before) {
		t.Fatalf("Value(%d) changes %v", n, x)
	}
	if again != v || e2 != e {
		t.Fatalf("Value(%d) of %v: %d, %v, then %d, %v", n, x, v, e, again, e2)
	}
	return v, e
}

// listed is what Members answers: new memory, of what is the same behind it and when the answer is written over.
func listed(t *testing.T, x api.Tree, n int) answer {
	t.Helper()
	y := roomy(x)
	before := everything(y)
	var got, again, other answer
	got.members, got.node, got.err = fold.Members(y, n)
	want := answer{slices.Clone(got.members), got.node, got.err}
	other.members, other.node, other.err = fold.Members(y, n)
	overwrite(got.members)
	if !reflect.DeepEqual(everything(y), before) {
		t.Fatalf("Members(%d) changes %v", n, x)
	}
	again.members, again.node, again.err = fold.Members(y, n)
	spoilAll(y)
	if !again.is(want) || !other.is(want) {
		t.Fatalf("Members(%d) of %v: %v, then %v, %v", n, x, want, other, again)
	}
	return want
}

// overwrite writes over a list, its room too.
func overwrite(l []api.Constant) {
	l = l[:cap(l)]
	for i := range l {
		l[i] = api.Constant{Name: "over", Node: -1, Num: -2, Text: "written", IsText: !l[i].IsText}
	}
}

// values fails, unless Value answers that.
func values(t *testing.T, what string, x api.Tree, n, want int, err api.Errno) {
	t.Helper()
	if v, e := asked(t, x, n); v != want || e != err {
		t.Errorf("%s: %d, %v, not %d, %v", what, v, e, want, err)
	}
	if v, e := slowValue(x, n); v != want || e != err {
		t.Errorf("%s: the slow reading says %d, %v, not %d, %v", what, v, e, want, err)
	}
}

// lists fails, unless Members answers that.
func lists(t *testing.T, what string, x api.Tree, n int, want answer) {
	t.Helper()
	if got := listed(t, x, n); !got.is(want) {
		t.Errorf("%s: %v, not %v", what, got, want)
	}
	if slow := slowMembers(x, n); !slow.is(want) {
		t.Errorf("%s: the slow reading says %v, not %v", what, slow, want)
	}
}
