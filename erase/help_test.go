package erase_test

import (
	"reflect"
	"slices"
	"strings"
	"testing"

	"shuck/api"
	"shuck/bind"
	"shuck/core"
	"shuck/erase"
	"shuck/lex"
	"shuck/parse"
	"shuck/print"
	"shuck/tree"
)

// kindOf is the kind of each of the document's words.
var kindOf = map[string]int{
	"-": api.None, "L": api.List, "Program": api.Program,
	"Num": api.Num, "Str": api.Str, "Template": api.Template, "True": api.True, "False": api.False, "Null": api.Null,
	"Undefined": api.Undefined, "Name": api.Name, "This": api.This, "Array": api.Array, "Object": api.Object, "Prop": api.Prop,
	"Arrow": api.Arrow, "Unary": api.Unary, "Binary": api.Binary, "Cond": api.Cond, "Assign": api.Assign, "Call": api.Call,
	"New": api.New, "Member": api.Member, "Index": api.Index, "Super": api.Super, "SuperMember": api.SuperMember, "As": api.As, "Bang": api.Bang,
	"Var": api.Var, "Func": api.Func, "Class": api.Class, "Base": api.Base, "Field": api.Field, "Method": api.Method, "Ctor": api.Ctor,
	"Enum": api.Enum, "EnumMember": api.EnumMember, "Namespace": api.Namespace, "Export": api.Export, "Interface": api.Interface,
	"Alias": api.Alias, "If": api.If, "While": api.While, "For": api.For, "ForOf": api.ForOf, "Return": api.Return, "Break": api.Break,
	"Continue": api.Continue, "Throw": api.Throw, "Try": api.Try, "Catch": api.Catch, "Block": api.Block, "Eval": api.Eval,
	"Empty": api.Empty, "Param": api.Param, "TypeParam": api.TypeParam,
	"TypeName": api.TypeName, "TypeNum": api.TypeNum, "TypeStr": api.TypeStr, "TypeArray": api.TypeArray, "TypeObject": api.TypeObject,
	"TypeProp": api.TypeProp, "TypeFunc": api.TypeFunc, "TypeUnion": api.TypeUnion,
}

// sets are rows of words that were asked about, as kinds: the slow reading asks about them all the time.
var sets = map[string][]bool{}

// isOf tells whether a kind is one of these words.
func isOf(kind int, words string) bool {
	set, ok := sets[words]
	if !ok {
		set = make([]bool, api.TypeUnion+1)
		for _, word := range strings.Fields(words) {
			k, ok := kindOf[word]
			if !ok {
				panic("what is " + word + "?")
			}
			set[k] = true
		}
		sets[words] = set
	}
	return kind >= 0 && kind < len(set) && set[kind]
}

// read is the tree of a text.
func read(t *testing.T, text string) api.Tree {
	t.Helper()
	x, at, e := parse.Program([]byte(text))
	if e != api.OK {
		t.Fatalf("%q: %d, %v", text, at, e)
	}
	return x
}

// answer is what Program answers.
type answer struct {
	left api.Tree
	node int
	err  api.Errno
}

func (a answer) is(b answer) bool { return a.node == b.node && a.err == b.err && equal(a.left, b.left) }

// program calls erase.Program twice, and fails, unless what was handed in stays what it was, also when an answer is written over, and both answers are the same.
func program(t *testing.T, x api.Tree) answer {
	t.Helper()
	var got, again answer
	y := roomy(x)
	before := everything(y)
	got.left, got.node, got.err = erase.Program(y)
	if !reflect.DeepEqual(everything(y), before) {
		t.Fatalf("changed: %v", x)
	}
	want := copied(got.left)
	spoilAll(got.left)
	if !reflect.DeepEqual(everything(y), before) {
		t.Fatalf("the answer shares with %v", x)
	}
	again.left, again.node, again.err = erase.Program(y)
	spoilAll(y)
	got.left = want
	if !again.is(got) {
		t.Fatalf("%v, then %v of %v", got, again, x)
	}
	if got.err != api.OK && len(got.left.Nodes) != 0 {
		t.Fatalf("%v beside %v", got.left, got.err)
	}
	return got
}

// agrees is what Program answers of a tree, held against the slow reading, and what must follow; and why a node offends.
func agrees(t *testing.T, what string, x api.Tree) (answer, string) {
	t.Helper()
	got := program(t, x)
	want, why := slowly(t, x)
	if !got.is(want) {
		t.Fatalf("%s: %d, %v\n%s\nthe slow reading says %d, %v %s\n%s", what, got.node, got.err, told(got.left), want.node, want.err, why, told(want.left))
	}
	if got.err == api.OK {
		follows(t, what, x, got.left)
	}
	return got, why
}

// follows holds what is erased against what the chapter says that follows.
func follows(t *testing.T, what string, x, left api.Tree) {
	t.Helper()
	if n, e := core.Check(left); n != -1 || e != api.OK {
		t.Fatalf("%s: not plain: %d, %v\n%s", what, n, e, told(left))
	}
	if _, n, e := bind.Program(left); n != -1 || e != api.OK {
		t.Fatalf("%s: chapter 7 refuses what is erased: %d, %v\n%s", what, n, e, told(left))
	}
	if again := program(t, left); !again.is(answer{left, -1, api.OK}) {
		t.Fatalf("%s: erased is not itself: %d, %v\n%s, but\n%s", what, again.node, again.err, told(left), told(again.left))
	}
	text, e := print.Program(left)
	if e != api.OK {
		t.Fatalf("%s: no text: %v", what, e)
	}
	if isWithin(text) {
		if y, at, e := parse.Program([]byte(text)); e != api.OK || !tree.Same(y, left) {
			t.Fatalf("%s: read again: %d, %v\n%s", what, at, e, text)
		}
	}
	if n, e := core.Check(x); n == -1 && e == api.OK && !equal(x, left) {
		t.Fatalf("%s: plain, and not itself:\n%s, but\n%s", what, told(x), told(left))
	}
}

// isWithin tells whether a text is within the bounds of chapters 2 and 4.
func isWithin(text string) bool {
	l, _, e := lex.Tokens([]byte(text))
	if e != api.OK {
		return false
	}
	deep, _ := lex.Depth(l, api.MaxDepth)
	return deep <= api.MaxDepth
}

// gives holds texts, each with the one whose tree is what it is erased to.
func gives(t *testing.T, texts ...string) {
	t.Helper()
	for i := 0; i < len(texts); i += 2 {
		got, why := agrees(t, texts[i], read(t, texts[i]))
		if got.err != api.OK {
			t.Errorf("%s: %d, %v: %s", texts[i], got.node, got.err, why)
			continue
		}
		if !tree.Same(got.left, read(t, texts[i+1])) {
			s, _ := print.Program(got.left)
			t.Errorf("%s:\n%s, not\n%s", texts[i], s, texts[i+1])
		}
	}
}

// stays holds texts whose trees are erased to themselves.
func stays(t *testing.T, texts ...string) {
	t.Helper()
	for _, text := range texts {
		gives(t, text, text)
	}
}

// offence is a kind's word and a text, with a mark @ ahead of the node of that kind that must be told.
type offence struct{ word, text string }

// refuses holds texts against the node that is told with ErrType.
func refuses(t *testing.T, l ...offence) {
	t.Helper()
	for _, o := range l {
		ahead, behind, ok := strings.Cut(o.text, "@")
		if !ok || strings.Contains(behind, "@") {
			t.Fatalf("%s: where?", o.text)
		}
		x := read(t, ahead+behind)
		want := one(t, x, len(ahead), o.word)
		if got, why := agrees(t, o.text, x); got.err != api.ErrType || got.node != want {
			t.Errorf("%s %s: %d, %v %s, not %d", o.word, o.text, got.node, got.err, why, want)
		}
	}
}

// one is the number of the one node of a kind that begins at a byte.
func one(t *testing.T, x api.Tree, at int, word string) int {
	t.Helper()
	found := -1
	for n, node := range x.Nodes {
		if node.At != at || !isOf(node.Kind, word) {
			continue
		}
		if found >= 0 {
			t.Fatalf("two of %s at %d", word, at)
		}
		found = n
	}
	if found < 0 {
		t.Fatalf("none of %s at %d", word, at)
	}
	return found
}

// equal tells whether trees are the same, their At too.
func equal(a, b api.Tree) bool {
	return slices.EqualFunc(a.Nodes, b.Nodes, func(x, y api.Node) bool {
		return x.Kind == y.Kind && x.Text == y.Text && x.Num == y.Num && x.At == y.At && slices.Equal(x.Kids, y.Kids)
	})
}

// copied is a tree that shares no list with another.
func copied(x api.Tree) api.Tree {
	l := slices.Clone(x.Nodes)
	for i := range l {
		l[i].Kids = slices.Clone(l[i].Kids)
	}
	return api.Tree{Nodes: l}
}

// turned is a tree with something changed.
func turned(x api.Tree, f func(l []api.Node)) api.Tree {
	c := copied(x)
	f(c.Nodes)
	return c
}

// roomy is a tree with room behind each list, and something in it.
func roomy(x api.Tree) api.Tree {
	l := slices.Clone(x.Nodes)
	for i := range l {
		kids := append(slices.Clone(l[i].Kids), -77, -78, -79)
		l[i].Kids = kids[:len(kids)-3]
	}
	l = append(l, api.Node{Kind: -77, Text: "behind", Kids: []int{-7}}, api.Node{Kind: -78})
	return api.Tree{Nodes: l[:len(l)-2]}
}

// everything is all that a tree's lists have, their room too.
func everything(x api.Tree) []api.Node {
	l := slices.Clone(x.Nodes[:cap(x.Nodes)])
	for i := range l {
		l[i].Kids = slices.Clone(l[i].Kids[:cap(l[i].Kids)])
	}
	return l
}

// spoilAll makes something else of all that a tree's lists have, their room too.
func spoilAll(x api.Tree) {
	l := x.Nodes[:cap(x.Nodes)]
	for i := range l {
		kids := l[i].Kids[:cap(l[i].Kids)]
		for j := range kids {
			kids[j] = -1000 - i
		}
		l[i] = api.Node{Kind: -1000 - i, Text: "spoiled", Num: -5, At: -6}
	}
}
