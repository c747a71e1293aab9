package bind_test

import (
	"regexp"
	"slices"
	"strconv"
	"strings"
	"testing"

	"shuck/api"
	"shuck/bind"
	"shuck/parse"
	"shuck/tree"
)

// kinds is the kind of each of the document's words.
var kinds = map[string]int{
	"-": api.None, "L": api.List, "Program": api.Program,
	"Num": api.Num, "Str": api.Str, "Template": api.Template, "True": api.True, "False": api.False, "Null": api.Null,
	"Undefined": api.Undefined, "Name": api.Name, "This": api.This, "Array": api.Array, "Object": api.Object, "Prop": api.Prop,
	"Arrow": api.Arrow, "Unary": api.Unary, "Binary": api.Binary, "Cond": api.Cond, "Assign": api.Assign, "Call": api.Call,
	"New": api.New, "Member": api.Member, "Index": api.Index, "Super": api.Super, "SuperMember": api.SuperMember, "As": api.As, "Bang": api.Bang,
	"Var": api.Var, "Func": api.Func, "Class": api.Class, "Base": api.Base, "Field": api.Field, "Method": api.Method, "Ctor": api.Ctor,
	"Enum": api.Enum, "EnumMember": api.EnumMember, "Namespace": api.Namespace, "Export": api.Export, "Interface": api.Interface,
	"Alias": api.Alias, "If": api.If, "While": api.While, "For": api.For, "ForOf": api.ForOf, "Return": api.Return, "Break": api.Break,
	"Continue": api.Continue, "Throw": api.Throw, "Try": api.Try, "Catch": api.Catch, "Block": api.Block, "Eval": api.Eval,
	"Empty": api.Empty, "Param": api.Param, "TypeParam": api.TypeParam,
	"TypeName": api.TypeName, "TypeNum": api.TypeNum, "TypeStr": api.TypeStr, "TypeArray": api.TypeArray, "TypeObject": api.TypeObject,
	"TypeProp": api.TypeProp, "TypeFunc": api.TypeFunc, "TypeUnion": api.TypeUnion,
}

// of is the tree that a line tells as the document's examples do: a kind, its Text (bare, or in quotes), Const or not, its kids in brackets. A word that is no kind is a Name, digits are a Num.
func of(line string) api.Tree {
	x, rest := took(line)
	if strings.TrimSpace(rest) != "" {
		panic("what is " + rest + "?")
	}
	return x
}

// took is the tree at a line's beginning, and what is left of the line.
func took(line string) (api.Tree, string) {
	word, line := bare(line)
	kind, ok := kinds[word]
	if !ok {
		if n, err := strconv.Atoi(word); err == nil {
			return tree.Make(api.Node{Kind: api.Num, Num: n}), line
		}
		return tree.Make(api.Node{Kind: api.Name, Text: word}), line
	}
	root := api.Node{Kind: kind}
	if quoted, err := strconv.QuotedPrefix(line); err == nil {
		root.Text, _ = strconv.Unquote(quoted)
		line = strings.TrimLeft(line[len(quoted):], " ")
	} else {
		root.Text, line = bare(line)
	}
	if rest, ok := strings.CutPrefix(line, "Const"); ok {
		root.Num, line = api.Const, strings.TrimLeft(rest, " ")
	}
	var kids []api.Tree
	if strings.HasPrefix(line, "[") {
		for line[0] != ']' {
			var kid api.Tree
			kid, line = took(strings.TrimLeft(line[1:], " "))
			kids = append(kids, kid)
		}
		line = line[1:]
	}
	return tree.Make(root, kids...), line
}

// bare is the word at a line's beginning, and what is left behind the blanks.
func bare(line string) (string, string) {
	end := strings.IndexAny(line, " ,[]")
	if end < 0 {
		end = len(line)
	}
	return line[:end], strings.TrimLeft(line[end:], " ")
}

// read is the tree of a text.
func read(t *testing.T, text string) api.Tree {
	t.Helper()
	x, at, e := parse.Program([]byte(text))
	if e != api.OK {
		t.Fatalf("%q: %d, %v", text, at, e)
	}
	return x
}

// program calls bind.Program, and fails, unless what was handed in stays what it was.
func program(t *testing.T, x api.Tree) ([]api.Use, int, api.Errno) {
	t.Helper()
	before := copied(x)
	uses, n, e := bind.Program(x)
	if !equal(x, before) {
		t.Fatalf("changed: %v", before)
	}
	return uses, n, e
}

// told fails, unless a tree's answer is that.
func told(t *testing.T, what string, x api.Tree, uses []api.Use, n int, e api.Errno) {
	t.Helper()
	gotUses, gotN, gotE := program(t, x)
	if gotN != n || gotE != e || !slices.Equal(gotUses, uses) {
		t.Errorf("%s:\n%v, %d, %v, want\n%v, %d, %v", what, gotUses, gotN, gotE, uses, n, e)
	}
}

// mark is what the tests lay into a text ahead of a node: a number of a declaration behind @, of its uses behind #, with ! where they are Late.
var mark = regexp.MustCompile(`[@#][0-9]!?`)

const declaring = " Var Func Class Enum Namespace Param Catch ForOf "

// sets are rows of words that were asked about, as kinds: the slow tests ask about them all the time.
var sets = map[string][]bool{}

// isOf tells whether a kind is one of these words.
func isOf(kind int, words string) bool {
	set, ok := sets[words]
	if !ok {
		set = make([]bool, api.TypeUnion+1)
		for _, word := range strings.Fields(words) {
			set[kinds[word]] = true
		}
		sets[words] = set
	}
	return kind >= 0 && kind < len(set) && set[kind]
}

// one is the number of the one node of these kinds that begins at a byte.
func one(t *testing.T, x api.Tree, at int, words string) int {
	t.Helper()
	found := -1
	for n, node := range x.Nodes {
		if node.At != at || !isOf(node.Kind, words) {
			continue
		}
		if found >= 0 {
			t.Fatalf("two of%sat %d", words, at)
		}
		found = n
	}
	if found < 0 {
		t.Fatalf("none of%sat %d", words, at)
	}
	return found
}

// binds holds texts against their marks: each use that is not marked stands for something of the surroundings.
func binds(t *testing.T, texts ...string) {
	t.Helper()
	for _, text := range texts {
		x := read(t, mark.ReplaceAllString(text, ""))
		declared, marks := map[byte]int{}, map[int]string{}
		gone := 0
		for _, at := range mark.FindAllStringIndex(text, -1) {
			m := text[at[0]:at[1]]
			if m[0] == '@' {
				declared[m[1]] = one(t, x, at[0]-gone, declaring)
			} else {
				marks[one(t, x, at[0]-gone, " Name Base ")] = m
			}
			gone += len(m)
		}
		var want []api.Use
		for n, node := range x.Nodes {
			if m, ok := marks[n]; ok {
				d, ok := declared[m[1]]
				if !ok {
					t.Fatalf("%s: what is %s?", text, m)
				}
				want = append(want, api.Use{At: n, Decl: d, Late: strings.HasSuffix(m, "!")})
			} else if isOf(node.Kind, " Name Base ") {
				want = append(want, api.Use{At: n, Decl: -1})
			}
		}
		told(t, text, x, want, -1, api.OK)
	}
}

// offence is a kind's word and a text, with a mark @ ahead of the node of that kind that must be told.
type offence struct{ word, text string }

// refuses holds texts against the node that offends first.
func refuses(t *testing.T, l ...offence) {
	t.Helper()
	for _, o := range l {
		ahead, behind, ok := strings.Cut(o.text, "@")
		if !ok || strings.Contains(behind, "@") {
			t.Fatalf("%s: where?", o.text)
		}
		x := read(t, ahead+behind)
		told(t, o.word+": "+o.text, x, nil, one(t, x, len(ahead), o.word), api.ErrName)
	}
}

// takes holds texts in which nothing offends.
func takes(t *testing.T, texts ...string) {
	t.Helper()
	for _, text := range texts {
		if uses, n, e := program(t, read(t, text)); n != -1 || e != api.OK {
			t.Errorf("%s: %v, %d, %v", text, uses, n, e)
		}
	}
}

// equal tells whether trees are the same, their At too.
func equal(a, b api.Tree) bool {
	return slices.EqualFunc(a.Nodes, b.Nodes, func(x, y api.Node) bool {
		return x.Kind == y.Kind && x.Text == y.Text && x.Num == y.Num && x.At == y.At && slices.Equal(x.Kids, y.Kids)
	})
}

// copied is a tree that shares no list with another.
func copied(t api.Tree) api.Tree {
	l := slices.Clone(t.Nodes)
	for i := range l {
		l[i].Kids = slices.Clone(l[i].Kids)
	}
	return api.Tree{Nodes: l}
}

// turned is a tree with one thing changed.
func turned(t api.Tree, f func(l []api.Node)) api.Tree {
	c := copied(t)
	f(c.Nodes)
	return c
}
