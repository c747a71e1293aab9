package bind_test

import (
	"testing"

	"shuck/api"
	"shuck/tree"
)

// noTrees are what chapter 3's Check refuses.
func noTrees() []api.Tree {
	program := of("Program [Var x [-, a], Eval [Assign = [x, x]], Class C [L, Base D [L], L, L [Ctor [L [Param p [-]], Block [Eval [Super [L]]]]]]]")
	l := []api.Tree{
		{},
		{Nodes: []api.Node{}},
		{Nodes: program.Nodes[:0]},
		{Nodes: []api.Node{{}}},
		{Nodes: []api.Node{{Kind: api.Program, Kids: []int{0}}}},
		{Nodes: []api.Node{{Kind: api.Program, Kids: []int{1}}, {Kind: api.Block, Kids: []int{1}}}},
		{Nodes: []api.Node{{Kind: api.Program, Kids: []int{1}}, {Kind: api.Block, Kids: []int{0}}}},
		{Nodes: []api.Node{{Kind: api.Program, Kids: []int{2, 1}}, {Kind: api.Empty}, {Kind: api.Empty}}},
		{Nodes: []api.Node{{Kind: api.Program, Kids: []int{1, 1}}, {Kind: api.Empty}}},
		{Nodes: []api.Node{{Kind: api.Program}, {Kind: api.Empty}}},
		{Nodes: []api.Node{{Kind: api.Program, Kids: []int{1}}}},
		of("Program [a]"), of("Program [Program]"), of("Program [Eval [Break]]"), of("Program [Export [Func f [L, L, -, Block]]]"), of("Program [Eval [Name if]]"), of(`Program [Eval [Name "a b"]]`),
		of("Program [Param p [-]]"), of("Program [Catch e [Block]]"), of("Program [Base b [L]]"), of("Program [Ctor [L, Block]]"), of("Program [Method m [L, L, -, Block]]"), of("Program [Field x [-, -]]"), of("Program [TypeNum]"),
		of("Program [Eval [Super]]"), of("Program [Return]"), of("Program [For [Var i Const [-, a], -, -, Block]]"), of("Program [Block [Export [Enum E]]]"), of("Program [Class C [L, a, L, L]]"), of("Program [Class C [L, -, L, L [Ctor [L, Block], Ctor [L, Block]]]]"),
		of("Program [Var x [a, a]]"), of("Program [Eval [Assign = [This, a]]]"), of("Program [Eval [New [This, L, L]]]"), of("Binary [a, b]"), of("Name if"), of("Block [a]"),
	}
	for n := range program.Nodes {
		for _, kind := range []int{-1 << 63, -1, 0, api.Prop, api.TypeProp, 88, 1000, 1<<63 - 1} {
			l = append(l, turned(program, func(l []api.Node) { l[n].Kind = kind }))
		}
		for _, kid := range []int{-1 << 63, -1, 0, n, n + 1, len(program.Nodes), 1<<63 - 1} {
			l = append(l, turned(program, func(l []api.Node) { l[n].Kids = append(l[n].Kids, kid) }))
		}
	}
	return l
}

// P7.1: chapter 3's error comes first, with its node.
func TestNoTree(t *testing.T) {
	for _, x := range noTrees() {
		n, e := tree.Check(x)
		if e != api.ErrTree {
			t.Fatalf("%v is a tree", x)
		}
		told(t, "no tree", x, nil, n, api.ErrTree)
	}
	// Even where names offend ahead of it, or the root is no Program.
	told(t, "a name ahead", of("Program [Eval [a], Return [-], Eval [Name if]]"), nil, 6, api.ErrTree)
	told(t, "another root", of("Array [a, Name if]"), nil, 2, api.ErrTree)
}

// P7.1: a root that is no Program is told, whatever stands beneath it.
func TestOtherRoots(t *testing.T) {
	for _, line := range []string{
		"-", "L", "L [a]", "L [Program]", "Num", "Str", "Template [Str]", "True", "False", "Null", "Undefined", "Name print", "Name a", "This", "Array [a]", "Object", "Prop p [a]", "Arrow [L, L, a]", "Unary ! [a]", "Binary + [a, b]", "Cond [a, b, c]", "Assign = [a, b]", "Call [a, L, L]", "New [a, L, L]", "Member m [a]", "Index [a, b]", "Super [L]", "SuperMember m", "As [a, TypeNum]", "Bang [a]",
		"Var x [-, a]", "Func f [L, L, -, Block]", "Class C [L, -, L, L]", "Base C [L]", "Field x [-, a]", "Method m [L, L, -, Block]", "Ctor [L, Block]", "Enum E", "EnumMember a [-]", "Namespace N", "Export [Enum E]", "Interface I [L, L, TypeObject]", "Alias T [L, TypeNum]",
		"If [a, Block, -]", "While [a, Block]", "For [-, -, -, Block]", "ForOf x [a, Block]", "Return [-]", "Break", "Continue", "Throw [a]", "Try [Block, -, Block]", "Catch x [Block]", "Block", "Block [Eval [a]]", "Eval [a]", "Empty", "Param p [-]", "TypeParam T", "TypeName T [L]", "TypeNum", "TypeStr", "TypeArray [TypeNum]", "TypeObject", "TypeProp a [TypeNum]", "TypeFunc [L, TypeNum]", "TypeUnion [TypeNum, TypeNum]",
	} {
		x := of(line)
		if n, e := tree.Check(x); e != api.OK {
			t.Fatalf("%s: %d, %v", line, n, e)
		}
		told(t, line, x, nil, 0, api.ErrTree)
	}
}
