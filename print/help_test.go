package print_test

import (
	"slices"
	"strconv"
	"strings"
	"testing"

	"shuck/api"
	"shuck/parse"
	"shuck/print"
	"shuck/tree"
)

// kinds is the kind of each of the document's words, of plain nodes and of others.
var kinds = map[string]int{
	"-": api.None, "L": api.List, "Program": api.Program,
	"Num": api.Num, "Str": api.Str, "Template": api.Template, "True": api.True, "False": api.False, "Null": api.Null,
	"Undefined": api.Undefined, "Name": api.Name, "This": api.This, "Array": api.Array, "Object": api.Object, "Prop": api.Prop,
	"Arrow": api.Arrow, "Unary": api.Unary, "Binary": api.Binary, "Cond": api.Cond, "Assign": api.Assign, "Call": api.Call,
	"New": api.New, "Member": api.Member, "Index": api.Index, "Super": api.Super, "SuperMember": api.SuperMember, "As": api.As, "Bang": api.Bang,
	"Var": api.Var, "Func": api.Func, "Class": api.Class, "Base": api.Base, "Field": api.Field, "Method": api.Method, "Ctor": api.Ctor,
	"Enum": api.Enum, "EnumMember": api.EnumMember, "Namespace": api.Namespace, "Export": api.Export, "Interface": api.Interface,
	"Alias": api.Alias, "If": api.If, "While": api.While, "For": api.For, "ForOf": api.ForOf, "Return": api.Return, "Break": api.Break,
	"Continue": api.Continue, "Throw": api.Throw, "Try": api.Try, "Catch": api.Catch, "Block": api.Block, "Eval": api.Eval,
	"Empty": api.Empty, "Param": api.Param, "TypeParam": api.TypeParam,
	"TypeName": api.TypeName, "TypeNum": api.TypeNum, "TypeStr": api.TypeStr, "TypeArray": api.TypeArray, "TypeObject": api.TypeObject,
	"TypeProp": api.TypeProp, "TypeFunc": api.TypeFunc, "TypeUnion": api.TypeUnion,
}

// of is the tree that a line tells as the chapter's examples do: a kind, its Text (bare, or in quotes), Const or not, its kids in brackets. A word that is no kind is a Name, digits are a Num.
func of(line string) api.Tree {
	x, rest := took(line)
	if strings.TrimSpace(rest) != "" {
		panic("what is " + rest + "?")
	}
	return x
}

// took is the tree at a line's beginning, and what is left of the line.
func took(line string) (api.Tree, string) {
	word, line := bare(line)
	kind, ok := kinds[word]
	if !ok {
		if n, err := strconv.Atoi(word); err == nil {
			return tree.Make(api.Node{Kind: api.Num, Num: n}), line
		}
		return tree.Make(api.Node{Kind: api.Name, Text: word}), line
	}
	root := api.Node{Kind: kind}
	if quoted, err := strconv.QuotedPrefix(line); err == nil {
		root.Text, _ = strconv.Unquote(quoted)
		line = strings.TrimLeft(line[len(quoted):], " ")
	} else {
		root.Text, line = bare(line)
	}
	if rest, ok := strings.CutPrefix(line, "Const"); ok {
		root.Num, line = api.Const, strings.TrimLeft(rest, " ")
	}
	var kids []api.Tree
	if strings.HasPrefix(line, "[") {
		for line[0] != ']' {
			var kid api.Tree
			kid, line = took(strings.TrimLeft(line[1:], " "))
			kids = append(kids, kid)
		}
		line = line[1:]
	}
	return tree.Make(root, kids...), line
}

// bare is the word at a line's beginning, and what is left behind the blanks.
func bare(line string) (string, string) {
	end := strings.IndexAny(line, " ,[]")
	if end < 0 {
		end = len(line)
	}
	return line[:end], strings.TrimLeft(line[end:], " ")
}

// printing is one of the two calls, and the reading that goes back.
type printing struct {
	word string
	call func(api.Tree) (string, api.Errno)
	back func([]byte) (api.Tree, int, api.Errno)
}

func program() printing { return printing{"Program", print.Program, parse.Program} }
func expr() printing    { return printing{"Expr", print.Expr, parse.Expr} }

// fits holds a tree against its text, and the text against its tree.
func (p printing) fits(t *testing.T, x api.Tree, want string) {
	t.Helper()
	got, e := p.call(x)
	if e != api.OK || got != want {
		t.Errorf("%s:\n%q, %v, want\n%q", p.word, got, e, want)
		return
	}
	if y, at, e := p.back([]byte(got)); e != api.OK || !tree.Same(x, y) {
		t.Errorf("%s: %q is read as another tree: %d, %v", p.word, got, at, e)
	}
}

// all holds many trees, told in lines, each with its text behind it.
func (p printing) all(t *testing.T, pairs ...string) {
	t.Helper()
	for i := 0; i < len(pairs); i += 2 {
		p.fits(t, of(pairs[i]), pairs[i+1])
	}
}

// stays holds texts that are printed as they are read.
func (p printing) stays(t *testing.T, texts ...string) {
	t.Helper()
	for _, text := range texts {
		p.becomes(t, text, text)
	}
}

// becomes holds the tree of a text against the text that is printed of it.
func (p printing) becomes(t *testing.T, text, want string) {
	t.Helper()
	p.fits(t, p.read(t, text), want)
}

// read is the tree of a text.
func (p printing) read(t *testing.T, text string) api.Tree {
	t.Helper()
	x, at, e := p.back([]byte(text))
	if e != api.OK {
		t.Fatalf("%s(%q): %d, %v", p.word, text, at, e)
	}
	return x
}

// refuses holds trees that have no text, with their error.
func (p printing) refuses(t *testing.T, want api.Errno, l ...api.Tree) {
	t.Helper()
	for _, x := range l {
		if got, e := p.call(x); got != "" || e != want {
			t.Errorf("%s of %v: %q, %v, want %v", p.word, x, got, e, want)
		}
	}
}

// copied is a tree that shares no list with another.
func copied(t api.Tree) api.Tree {
	l := slices.Clone(t.Nodes)
	for i := range l {
		l[i].Kids = slices.Clone(l[i].Kids)
	}
	return api.Tree{Nodes: l}
}

// turned is a tree with one thing changed.
func turned(t api.Tree, f func(l []api.Node)) api.Tree {
	c := copied(t)
	f(c.Nodes)
	return c
}
