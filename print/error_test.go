package print_test

import (
	"testing"

	"shuck/api"
	"shuck/parse"
	"shuck/tree"
)

// noTrees are what chapter 3's Check refuses.
func noTrees() []api.Tree {
	program := of("Program [Eval [Binary + [a, b]], Eval [c]]")
	l := []api.Tree{
		{},
		{Nodes: []api.Node{}},
		{Nodes: []api.Node{{}}},
		{Nodes: []api.Node{{Kind: api.Unary, Text: "!", Kids: []int{0}}}},
		{Nodes: []api.Node{{Kind: api.Program, Kids: []int{0}}}},
		{Nodes: []api.Node{{Kind: api.Program, Kids: []int{1}}, {Kind: api.Block, Kids: []int{1}}}},
		{Nodes: []api.Node{{Kind: api.Program, Kids: []int{1}}, {Kind: api.Block, Kids: []int{0}}}},
		{Nodes: []api.Node{{Kind: api.Array, Kids: []int{2, 1}}, {Kind: api.Null}, {Kind: api.Null}}},
		{Nodes: []api.Node{{Kind: api.Array, Kids: []int{1, 1}}, {Kind: api.Null}}},
		{Nodes: []api.Node{{Kind: api.Null}, {Kind: api.Null}}},
		of("Binary [a, b]"), of("Binary ++ [a, b]"), of("Unary + [a]"), of("Assign = [1, a]"), of("Assign == [a, b]"),
		of("Program [a]"), of("Program [Program]"), of("Eval [Break]"), of("Array [Eval [a]]"), of("Name if"), of("Name"), of(`Name "a b"`),
		of("New [Call [a, L, L], L, L]"), of(`Template [a, a]`), of("Template"), of(`Str "\xff"`), of("Program [Try [Block, -, -]]"),
		of("Program [For [Var i Const [-, a], -, -, Block]]"), of("Program [Export [Func f [L, L, -, Block]]]"),
	}
	for n := range program.Nodes {
		for _, kind := range []int{-1, 0, api.Prop, api.TypeProp, 1000} {
			l = append(l, turned(program, func(l []api.Node) { l[n].Kind = kind }))
		}
		for _, kid := range []int{-1, 0, n, n + 1, len(program.Nodes), 1<<63 - 1, -1 << 63} {
			l = append(l, turned(program, func(l []api.Node) { l[n].Kids = append(l[n].Kids, kid) }))
		}
	}
	return l
}

// P6.1: chapter 3's error comes first.
func TestNoTree(t *testing.T) {
	for _, x := range noTrees() {
		if n, e := tree.Check(x); e != api.ErrTree {
			t.Fatalf("%v is a tree: %d", x, n)
		}
		program().refuses(t, api.ErrTree, x)
		expr().refuses(t, api.ErrTree, x)
	}
	// Even if it is neither plain nor of the right root.
	program().refuses(t, api.ErrTree, of("Bang [Name if]"), of("Alias T [L, a]"))
	expr().refuses(t, api.ErrTree, of("Program [Eval [Bang [Name if]]]"))
}

// P6.1: what is not plain is ErrCore, be it ever so deep.
func TestNotPlain(t *testing.T) {
	for _, text := range []string{
		"let x: A = 1;", "x as A;", "x!;", "f<A>(1);", "new A<B>();", "<T>(x) => x;", "(x: A) => x;", "(x?) => x;", "enum E {}", "const enum E { a }",
		"namespace N {}", "namespace N { export const a = 1; }", "interface I {}", "type T = A;", "function f<T>() {}", "function f(): A {}", "function f(x: A) {}", "function f(x?) {}",
		"class C<T> {}", "class C extends D<A> {}", "class C implements I {}", "class C { x; }", "class C { x: A = 1; }", "class C { readonly x = 1; }",
		"class C { m<T>() {} }", "class C { m(): A {} }", "class C { constructor(public x) {} }", "class C { constructor(x?) {} }", "class C { constructor(readonly x) {} }",
		"for (let i: A = 1; ; ) {}", "{ { f(() => { return [`${{p: x!}}`]; }); } }", "if (a) {} else if (b) {} else { type T = A; }",
	} {
		x, at, e := parse.Program([]byte(text))
		if e != api.OK {
			t.Fatalf("%q: %d, %v", text, at, e)
		}
		program().refuses(t, api.ErrCore, x)
		expr().refuses(t, api.ErrCore, x)
	}
	for _, text := range []string{"x as A", "x!", "f<A>()", "new A<B>()", "(x: A) => x", "[x!]", "a + (b as C)", "() => { type T = A; }"} {
		x, at, e := parse.Expr([]byte(text))
		if e != api.OK {
			t.Fatalf("%q: %d, %v", text, at, e)
		}
		program().refuses(t, api.ErrCore, x)
		expr().refuses(t, api.ErrCore, x)
	}
}

// P6.1: a plain root of another kind is ErrCore.
func TestOtherRoots(t *testing.T) {
	for _, x := range levels() {
		program().refuses(t, api.ErrCore, of(x.line))
	}
	expr().refuses(t, api.ErrCore, of("Program"), of("Program [Eval [a]]"))
	for _, line := range []string{
		"-", "L", "L [a]", "Prop p [a]", "Var x [-, a]", "Func f [L, L, -, Block]", "Class C [L, -, L, L]", "Base C [L]", "Field x [-, a]",
		"Method m [L, L, -, Block]", "Ctor [L, Block]", "If [a, Block, -]", "While [a, Block]", "For [-, -, -, Block]", "ForOf x [a, Block]", "Return [-]",
		"Break", "Continue", "Throw [a]", "Try [Block, -, Block]", "Catch x [Block]", "Block", "Block [Eval [a]]", "Eval [a]", "Empty", "Param p [-]",
	} {
		x := of(line)
		if n, e := tree.Check(x); e != api.OK {
			t.Fatalf("%s: %d, %v", line, n, e)
		}
		program().refuses(t, api.ErrCore, x)
		expr().refuses(t, api.ErrCore, x)
	}
	for _, line := range []string{"As [a, TypeNum]", "Bang [a]", "TypeNum", "TypeParam T", "Enum E", "EnumMember a [-]", "Namespace N", "Alias T [L, TypeNum]", "TypeObject"} {
		program().refuses(t, api.ErrCore, of(line))
		expr().refuses(t, api.ErrCore, of(line))
	}
}
