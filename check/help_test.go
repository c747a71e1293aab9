package check_test

import (
	"maps"
	"reflect"
	"regexp"
	"slices"
	"strconv"
	"strings"
	"testing"

	"shuck/api"
	"shuck/check"
	"shuck/parse"
)

// kindOf is the kind of each of the document's words.
var kindOf = map[string]int{
	"-": api.None, "L": api.List, "Program": api.Program,
	"Num": api.Num, "Str": api.Str, "Template": api.Template, "True": api.True, "False": api.False, "Null": api.Null,
	"Undefined": api.Undefined, "Name": api.Name, "This": api.This, "Array": api.Array, "Object": api.Object, "Prop": api.Prop,
	"Arrow": api.Arrow, "Unary": api.Unary, "Binary": api.Binary, "Cond": api.Cond, "Assign": api.Assign, "Call": api.Call,
	"New": api.New, "Member": api.Member, "Index": api.Index, "Super": api.Super, "SuperMember": api.SuperMember, "As": api.As, "Bang": api.Bang,
	"Var": api.Var, "Func": api.Func, "Class": api.Class, "Base": api.Base, "Field": api.Field, "Method": api.Method, "Ctor": api.Ctor,
	"Enum": api.Enum, "EnumMember": api.EnumMember, "Namespace": api.Namespace, "Export": api.Export, "Interface": api.Interface,
	"Alias": api.Alias, "If": api.If, "While": api.While, "For": api.For, "ForOf": api.ForOf, "Return": api.Return, "Break": api.Break,
	"Continue": api.Continue, "Throw": api.Throw, "Try": api.Try, "Catch": api.Catch, "Block": api.Block, "Eval": api.Eval,
	"Empty": api.Empty, "Param": api.Param, "TypeParam": api.TypeParam,
	"TypeName": api.TypeName, "TypeNum": api.TypeNum, "TypeStr": api.TypeStr, "TypeArray": api.TypeArray, "TypeObject": api.TypeObject,
	"TypeProp": api.TypeProp, "TypeFunc": api.TypeFunc, "TypeUnion": api.TypeUnion,
}

// sets are rows of words that were asked about, as kinds: the slow tests ask about them all the time.
var sets = map[string][]bool{}

// isOf tells whether a kind is one of these words.
func isOf(kind int, words string) bool {
	set, ok := sets[words]
	if !ok {
		set = make([]bool, api.TypeUnion+1)
		for _, word := range strings.Fields(words) {
			k, ok := kindOf[word]
			if !ok {
				panic("what is " + word + "?")
			}
			set[k] = true
		}
		sets[words] = set
	}
	return kind >= 0 && kind < len(set) && set[kind]
}

// read is the tree of a text.
func read(t *testing.T, text string) api.Tree {
	t.Helper()
	x, at, e := parse.Program([]byte(text))
	if e != api.OK {
		t.Fatalf("%q: %d, %v", text, at, e)
	}
	return x
}

// program calls check.Program, and fails, unless what was handed in stays what it was, and what is answered has the form that it must have.
func program(t *testing.T, x api.Tree) api.Checked {
	t.Helper()
	before := copied(x)
	c := check.Program(x)
	if !equal(x, before) {
		t.Fatalf("changed: %v", before)
	}
	switch {
	case c.Err != api.OK && c.Err != api.ErrType:
		if len(c.Types) != 0 || c.Err == api.ErrComplex && c.Node != 0 {
			t.Fatalf("%v, %d with %d types", c.Err, c.Node, len(c.Types))
		}
		return c
	case len(c.Types) != len(x.Nodes):
		t.Fatalf("%d types of %d nodes", len(c.Types), len(x.Nodes))
	case c.Err == api.OK && c.Node != -1:
		t.Fatalf("OK, %d", c.Node)
	}
	for n, node := range x.Nodes {
		isExpr := node.Kind >= api.Num && node.Kind <= api.Bang && node.Kind != api.Prop
		if isExpr != (c.Types[n] != "") {
			t.Fatalf("the node %d, of the kind %d, has the type %q", n, node.Kind, c.Types[n])
		}
	}
	return c
}

// agrees is what is told of a tree, held against the slow reading: all that offends, and each type; and why it offends.
func agrees(t *testing.T, what string, x api.Tree) (api.Checked, map[int]string) {
	t.Helper()
	got := program(t, x)
	want, why := slowly(x)
	if got.Err != want.Err || got.Node != want.Node {
		t.Fatalf("%s: %v, %d, the slow reading says %v, %d %s", what, got.Err, got.Node, want.Err, want.Node, why[want.Node])
	}
	for n, s := range want.Types {
		if got.Types[n] != s {
			t.Fatalf("%s: the node %d %v is %q, not %q", what, n, x.Nodes[n], got.Types[n], s)
		}
	}
	if ahead := check.Patiently(x, 0); !reflect.DeepEqual(ahead, got) {
		t.Fatalf("%s: %v, %d, but %v, %d, if calls look ahead at once", what, got.Err, got.Node, ahead.Err, ahead.Node)
	}
	offences := check.Offences(x)
	if all := slices.Sorted(maps.Keys(why)); !slices.Equal(offences, all) {
		t.Fatalf("%s: %v offend, not %v (%v)", what, offences, all, why)
	}
	return got, why
}

// one is the number of the one node of a kind that begins at a byte; of a word with ^ behind it the outermost one.
func one(t *testing.T, x api.Tree, at int, word string) int {
	t.Helper()
	word, outermost := strings.CutSuffix(word, "^")
	found := -1
	for n, node := range x.Nodes {
		if node.At != at || !isOf(node.Kind, word) {
			continue
		}
		if found >= 0 && !outermost {
			t.Fatalf("two of %s at %d", word, at)
		}
		if found < 0 {
			found = n
		}
	}
	if found < 0 {
		t.Fatalf("none of %s at %d", word, at)
	}
	return found
}

// marked is a text without its mark @, and where that stood.
func marked(t *testing.T, text string) (string, int) {
	t.Helper()
	ahead, behind, ok := strings.Cut(text, "@")
	if !ok || strings.Contains(behind, "@") {
		t.Fatalf("%s: where?", text)
	}
	return ahead + behind, len(ahead)
}

// takes holds texts in which nothing offends.
func takes(t *testing.T, texts ...string) {
	t.Helper()
	for _, text := range texts {
		x := read(t, text)
		if c, why := agrees(t, text, x); c.Err != api.OK {
			n := x.Nodes[max(0, c.Node)]
			t.Errorf("%s:\n%v, %d at %d (%q): %s", text, c.Err, c.Node, n.At, text[n.At:], why[c.Node])
		}
	}
}

// offence is a kind's word and a text, with a mark @ ahead of the node of that kind that must be told.
type offence struct{ word, text string }

// refuses holds texts against the node that offends first.
func refuses(t *testing.T, l ...offence) {
	t.Helper()
	for _, o := range l {
		text, at := marked(t, o.text)
		x := read(t, text)
		want := one(t, x, at, o.word)
		if c, why := agrees(t, o.text, x); c.Err != api.ErrType || c.Node != want {
			n := x.Nodes[max(0, c.Node)]
			t.Errorf("%s %s:\n%v, %d at %d (%q): %s, not %d", o.word, o.text, c.Err, c.Node, n.At, text[n.At:], why[c.Node], want)
		}
	}
}

// numbers are those of nodes in the texts of types.
var numbers = regexp.MustCompile(`([#'@])[0-9]+`)

// typed is a kind's word, a text with a mark @ ahead of the expression of that kind, and its type, without the numbers of nodes.
type typed struct{ word, text, want string }

// hasTypes holds expressions against their types, whatever offends.
func hasTypes(t *testing.T, l ...typed) {
	t.Helper()
	for _, r := range l {
		text, at := marked(t, r.text)
		x := read(t, text)
		n := one(t, x, at, r.word)
		c, _ := agrees(t, r.text, x)
		if c.Err != api.OK && c.Err != api.ErrType {
			t.Errorf("%s: %v", r.text, c.Err)
			continue
		}
		if got := numbers.ReplaceAllString(c.Types[n], "$1"); got != r.want {
			t.Errorf("%s %s: %q, not %q", r.word, r.text, got, r.want)
		}
	}
}

// complexes holds texts in which something is too complex.
func complexes(t *testing.T, texts ...string) {
	t.Helper()
	for _, text := range texts {
		if c, _ := agrees(t, text, read(t, text)); c.Err != api.ErrComplex || c.Node != 0 {
			t.Errorf("%.300s: %v, %d", text, c.Err, c.Node)
		}
	}
}

// equal tells whether trees are the same, their At too.
func equal(a, b api.Tree) bool { return reflect.DeepEqual(a, b) }

// copied is a tree that shares no list with another.
func copied(t api.Tree) api.Tree {
	l := slices.Clone(t.Nodes)
	for i := range l {
		l[i].Kids = slices.Clone(l[i].Kids)
	}
	return api.Tree{Nodes: l}
}

// turned is a tree with one thing changed.
func turned(t api.Tree, f func(l []api.Node)) api.Tree {
	c := copied(t)
	f(c.Nodes)
	return c
}

// holdsNumber holds the marked expression's type against a text with % for the number of the first node of a kind.
func holdsNumber(t *testing.T, word, text, declaration, want string) {
	t.Helper()
	plain, at := marked(t, text)
	x := read(t, plain)
	c, _ := agrees(t, text, x)
	for n, node := range x.Nodes {
		if isOf(node.Kind, declaration) {
			want = strings.ReplaceAll(want, "%", strconv.Itoa(n))
			break
		}
	}
	if got := c.Types[one(t, x, at, word)]; got != want {
		t.Errorf("%s: %q, not %q", text, got, want)
	}
}
