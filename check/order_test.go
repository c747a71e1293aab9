package check_test

import (
	"slices"
	"testing"

	"shuck/api"
)

// P12.1: which node is told where several offend: the least number, in whatever order they are come upon.
func TestLeast(t *testing.T) {
	refuses(t,
		offence{"Str", "let x: number = @\"\"; let y: number = \"\";"},
		offence{"TypeName", "let x: @Nope = 1 + {}; type A = A;"},
		// Statements ahead of what is asked of types first.
		offence{"Str", "let x: number = @\"\"; type A = A; interface I extends I {} class C { a = 1; a = 2; } enum E { A, A }"},
		offence{"TypeName", "type A = @A; let x: number = \"\";"},
		// A node ahead of its kids.
		offence{"Binary", "print(({} as any) + (@{} + {}));"},
		offence{"Call", "function f(x: number) {} @f(\"\", 1 + {});"},
		offence{"New", "class C {} @new C(1 + {});"},
		offence{"Assign", "let x: 1 = 1; @x += \"\" - 1;"},
		offence{"As", "print(@\"\" as (number));"},
		// A kid ahead of what stands behind it.
		offence{"Member", "let o = {}; print(@o.a + o.b, o.c);"},
		offence{"Name", "function f(s: string) { @s - s; }"},
		// What is asked at the end of a body stands ahead of what is in it.
		offence{"TypeName", "function f(): @number { print(1 + {}); }"},
		offence{"Binary", "function f(): number { return @1 + {} as any; }"},
		// Members, Params, written types of one Class.
		offence{"Field", "class A { a: 1; } class B extends A { @a: 2; m(): number {} }"},
		offence{"TypeName", "interface I { a: 1 } class B implements @I { a: 2; a: 3; }"},
		offence{"Base", "let b = 1; class B<T> @extends b<Nope> implements I { m(): T {} } interface I { z: 1 }"},
		offence{"TypeParam", "class A<T> {} class B<T, @T> extends A {}"},
		offence{"EnumMember", "enum E { A, @A = 1 + {} } let x: number = \"\";"},
		offence{"Name", "function f(n: number) { for (const x of @n) { print(1 + {}); } }"},
		offence{"Prop", "print({a: 1, @a: 1 + {}});"},
		offence{"TypeProp", "type A = {a: 1; @a: Nope};"},
	)
}

// P12.1: Types are told with ErrType, too: of each expression a text, of each other node an empty one.
func TestTypesToo(t *testing.T) {
	const text = "let x: number = \"a\"; function f<T>(y: T): T { return y; } class C { v = f(1); m() { return this.v; } } print(x, f(2), new C().m(), -\"\", {a: [1]});"
	x := read(t, text)
	c, _ := agrees(t, text, x)
	if c.Err != api.ErrType {
		t.Fatal(c.Err, c.Node)
	}
	want := map[string][]string{
		"Str": {`"a"`, `""`}, "Name": {"T'", "(any) => any", "() => undefined", "number", "(any) => any", "class C#"}, "This": {"C#"}, "Call": {"number", "undefined", "number", "any"},
		"Unary": {"number"}, "Object": {"{a: number[]}"}, "Array": {"number[]"}, "New": {"C#"}, "Var": {""}, "Func": {""}, "TypeParam": {""}, "TypeName": {"", "", ""}, "Prop": {""}, "Eval": {""}, "Return": {"", ""},
	}
	for word, l := range want {
		var got []string
		for n, node := range x.Nodes {
			if isOf(node.Kind, word) {
				got = append(got, numbers.ReplaceAllString(c.Types[n], "$1"))
			}
		}
		if !slices.Equal(got, l) {
			t.Errorf("%s: %q, not %q", word, got, l)
		}
	}
}
