package parse_test

import (
	"strconv"
	"strings"
	"testing"

	"shuck/api"
	"shuck/parse"
	"shuck/tree"
)

// kindWords is the document's word for each kind of node.
func kindWords() map[int]string {
	return map[int]string{
		api.None: "-", api.List: "L", api.Program: "Program",
		api.Num: "Num", api.Str: "Str", api.Template: "Template", api.True: "True", api.False: "False", api.Null: "Null",
		api.Undefined: "Undefined", api.Name: "Name", api.This: "This", api.Array: "Array", api.Object: "Object", api.Prop: "Prop",
		api.Arrow: "Arrow", api.Unary: "Unary", api.Binary: "Binary", api.Cond: "Cond", api.Assign: "Assign", api.Call: "Call",
		api.New: "New", api.Member: "Member", api.Index: "Index", api.Super: "Super", api.SuperMember: "SuperMember", api.As: "As", api.Bang: "Bang",
		api.Var: "Var", api.Func: "Func", api.Class: "Class", api.Base: "Base", api.Field: "Field", api.Method: "Method", api.Ctor: "Ctor",
		api.Enum: "Enum", api.EnumMember: "EnumMember", api.Namespace: "Namespace", api.Export: "Export", api.Interface: "Interface",
		api.Alias: "Alias", api.If: "If", api.While: "While", api.For: "For", api.ForOf: "ForOf", api.Return: "Return", api.Break: "Break",
		api.Continue: "Continue", api.Throw: "Throw", api.Try: "Try", api.Catch: "Catch", api.Block: "Block", api.Eval: "Eval",
		api.Empty: "Empty", api.Param: "Param", api.TypeParam: "TypeParam",
		api.TypeName: "TypeName", api.TypeNum: "TypeNum", api.TypeStr: "TypeStr", api.TypeArray: "TypeArray", api.TypeObject: "TypeObject",
		api.TypeProp: "TypeProp", api.TypeFunc: "TypeFunc", api.TypeUnion: "TypeUnion",
	}
}

// told is a node and all beneath it: its kind (a Name and a TypeName without arguments by its text alone), its text, its number if it is not 0, its kids.
func told(t api.Tree, n int) string {
	x := t.Nodes[n]
	if x.Kind == api.Name && x.Num == 0 && len(x.Kids) == 0 {
		return x.Text
	}
	if x.Kind == api.TypeName && x.Num == 0 && len(x.Kids) == 1 {
		if l := t.Nodes[x.Kids[0]]; l.Kind == api.List && len(l.Kids) == 0 {
			return ":" + x.Text
		}
	}
	s := kindWords()[x.Kind]
	if x.Text != "" || x.Kind == api.Str || x.Kind == api.TypeStr {
		s += " " + x.Text
	}
	if x.Num != 0 || x.Kind == api.Num || x.Kind == api.TypeNum {
		s += " " + strconv.Itoa(x.Num)
	}
	if len(x.Kids) == 0 {
		return s
	}
	var kids []string
	for _, k := range x.Kids {
		kids = append(kids, told(t, k))
	}
	return s + " [" + strings.Join(kids, ", ") + "]"
}

// reading is one of the three calls.
type reading struct {
	word string
	call func([]byte) (api.Tree, int, api.Errno)
}

func program() reading { return reading{"Program", parse.Program} }
func expr() reading    { return reading{"Expr", parse.Expr} }
func typ() reading     { return reading{"Type", parse.Type} }

// fits holds a text against the tree that it must make.
func (r reading) fits(t *testing.T, text, want string) {
	t.Helper()
	x, at, e := r.call([]byte(text))
	if e != api.OK || at != 0 {
		t.Errorf("%s(%q): %d, %v", r.word, text, at, e)
		return
	}
	if n, e := tree.Check(x); e != api.OK {
		t.Errorf("%s(%q): Check says %d, %v", r.word, text, n, e)
		return
	}
	if got := told(x, 0); got != want {
		t.Errorf("%s(%q):\n%s, want\n%s", r.word, text, got, want)
	}
}

// all holds many texts, each with its tree behind it.
func (r reading) all(t *testing.T, pairs ...string) {
	t.Helper()
	for i := 0; i < len(pairs); i += 2 {
		r.fits(t, pairs[i], pairs[i+1])
	}
}

// refused holds texts that the grammar does not have.
func (r reading) refused(t *testing.T, texts ...string) {
	t.Helper()
	for _, text := range texts {
		x, at, e := r.call([]byte(text))
		if e != api.ErrSyntax || x.Nodes != nil || at < 0 || at > len(text) {
			t.Errorf("%s(%q): %v, %d, %v, want ErrSyntax", r.word, text, x, at, e)
		}
	}
}

// taken is the tree of a text that must have one.
func (r reading) taken(t *testing.T, text string) api.Tree {
	t.Helper()
	x, at, e := r.call([]byte(text))
	if e != api.OK || at != 0 {
		t.Fatalf("%s(%q): %d, %v", r.word, text, at, e)
	}
	return x
}

// sameTree tells whether two trees are the same, At too (but that of None and List).
func sameTree(a, b api.Tree) bool {
	if !tree.Same(a, b) {
		return false
	}
	for i, x := range a.Nodes {
		if x.Kind != api.None && x.Kind != api.List && x.At != b.Nodes[i].At {
			return false
		}
	}
	return true
}
