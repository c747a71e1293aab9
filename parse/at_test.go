package parse_test

import (
	"strconv"
	"strings"
	"testing"

	"shuck/api"
)

// places is the At of each node but None and List, in their order, each with its kind.
func places(x api.Tree) string {
	var l []string
	for _, y := range x.Nodes {
		if y.Kind != api.None && y.Kind != api.List {
			l = append(l, kindWords()[y.Kind]+" "+strconv.Itoa(y.At))
		}
	}
	return strings.Join(l, ", ")
}

// The At of each kind of node.
func TestAt(t *testing.T) {
	for _, c := range []struct {
		r          reading
		text, want string
	}{
		{program(), "", "Program 0"},
		{program(), "  ;", "Program 0, Empty 2"},
		{program(), " (a) + b;", "Program 0, Eval 1, Binary 1, Name 2, Name 7"},
		{program(), " let x: A = 1;", "Program 0, Var 1, TypeName 8, Num 12"},
		{program(), " function f<T>(a: A): B {;}", "Program 0, Func 1, TypeParam 12, Param 15, TypeName 18, TypeName 22, Block 24, Empty 25"},
		{program(), " class C<T> extends D<A> implements I { }", "Program 0, Class 1, TypeParam 9, Base 12, TypeName 22, TypeName 36"},
		{program(), "class C { x; readonly y: A = 1; m() {} constructor(a, public b, readonly c) {} }", "Program 0, Class 0, Field 10, Field 13, TypeName 25, Num 29, Method 32, Block 36, Ctor 39, Param 51, Param 54, Param 64, Block 76"},
		{program(), " enum E { A, B = 1 } const enum F {}", "Program 0, Enum 1, EnumMember 10, EnumMember 13, Num 17, Enum 21"},
		{program(), " namespace N { export const a = 1; b; }", "Program 0, Namespace 1, Export 15, Var 22, Num 32, Eval 35, Name 35"},
		{program(), " interface I<T> extends J { a: A }", "Program 0, Interface 1, TypeParam 13, TypeName 24, TypeObject 26, TypeProp 28, TypeName 31"},
		{program(), " type T<A> = B;", "Program 0, Alias 1, TypeParam 8, TypeName 13"},
		{program(), " if (a) {} else if ((b)) {} else {}", "Program 0, If 1, Name 5, Block 8, If 16, Name 21, Block 25, Block 33"},
		{program(), " while (a) {}", "Program 0, While 1, Name 8, Block 11"},
		{program(), " for (const x of y) {}", "Program 0, ForOf 1, Name 17, Block 20"},
		{program(), " for (let i = 0; a; b) {}", "Program 0, For 1, Var 6, Num 14, Name 17, Name 20, Block 23"},
		{program(), " return; return (a);", "Program 0, Return 1, Return 9, Name 17"},
		{program(), " break; continue; throw a;", "Program 0, Break 1, Continue 8, Throw 18, Name 24"},
		{program(), " try {} catch (e) {} finally {}", "Program 0, Try 1, Block 5, Catch 8, Block 18, Block 29"},
		{expr(), " (a)", "Name 2"},
		{expr(), " ((a))", "Name 3"},
		{expr(), " ((a) + b)", "Binary 2, Name 3, Name 8"},
		{expr(), " (a + b) + c", "Binary 1, Binary 2, Name 2, Name 6, Name 11"},
		{expr(), " a + (b)", "Binary 1, Name 1, Name 6"},
		{expr(), " (a) - b - c", "Binary 1, Binary 1, Name 2, Name 7, Name 11"},
		{expr(), " (a) * b + c", "Binary 1, Binary 1, Name 2, Name 7, Name 11"},
		{expr(), " (a) as A as B", "As 1, As 1, Name 2, TypeName 8, TypeName 13"},
		{expr(), " (a).b[c]!(d)", "Call 1, Bang 1, Index 1, Member 1, Name 2, Name 7, Name 11"},
		{expr(), " ((a)).b", "Member 1, Name 3"},
		{expr(), " (a.b)<A>(c)", "Call 1, Member 2, Name 2, TypeName 7, Name 10"},
		{expr(), " (a) ? (b) : (c)", "Cond 1, Name 2, Name 8, Name 14"},
		{expr(), " (a) = (b)", "Assign 1, Name 2, Name 8"},
		{expr(), " - (a)", "Unary 1, Name 4"},
		{expr(), " x => (y)", "Arrow 1, Param 1, Name 7"},
		{expr(), " (x, y: A) => {}", "Arrow 1, Param 2, Param 5, TypeName 8, Block 14"},
		{expr(), " <T>(x) => x", "Arrow 1, TypeParam 2, Param 5, Name 11"},
		{expr(), " [a, (b)]", "Array 1, Name 2, Name 6"},
		{expr(), " {a, b: c}", "Object 1, Prop 2, Name 2, Prop 5, Name 8"},
		{expr(), " new A.B<C>(d)", "New 1, Member 5, Name 5, TypeName 9, Name 12"},
		{expr(), " new A.B.C()", "New 1, Member 5, Member 5, Name 5"},
		{expr(), " super(a).b", "Member 1, Super 1, Name 7"},
		{expr(), " super.a", "SuperMember 1"},
		{expr(), " `a${ b }c${d}e`", "Template 1, Str 1, Name 6, Str 8, Name 12, Str 13"},
		{expr(), " `a`", "Template 1, Str 1"},
		{expr(), " 'a'", "Str 1"},
		{expr(), "[1, true, false, null, undefined, this]", "Array 0, Num 1, True 4, False 10, Null 17, Undefined 23, This 34"},
		{typ(), " | A | B", "TypeUnion 1, TypeName 3, TypeName 7"},
		{typ(), " | A", "TypeName 3"},
		{typ(), " | A[]", "TypeArray 3, TypeName 3"},
		{typ(), " (| A | B)[]", "TypeArray 1, TypeUnion 2, TypeName 4, TypeName 8"},
		{typ(), " (A | B) | C", "TypeUnion 1, TypeUnion 2, TypeName 2, TypeName 6, TypeName 11"},
		{typ(), " (A)", "TypeName 2"},
		{typ(), " (A)[][]", "TypeArray 1, TypeArray 1, TypeName 2"},
		{typ(), " (A)[] | B", "TypeUnion 1, TypeArray 1, TypeName 2, TypeName 9"},
		{typ(), " (x: A) => B", "TypeFunc 1, Param 2, TypeName 5, TypeName 11"},
		{typ(), " {a?: A; m(x): B}", "TypeObject 1, TypeProp 2, TypeName 6, TypeProp 9, TypeFunc 10, Param 11, TypeName 15"},
		{typ(), " A.B<C<D>>", "TypeName 1, TypeName 5, TypeName 7"},
		{typ(), "{a: 1, b: - 2, c: 's', d: null}", "TypeObject 0, TypeProp 1, TypeNum 4, TypeProp 7, TypeNum 10, TypeProp 15, TypeStr 18, TypeProp 23, TypeName 26"},
	} {
		x := c.r.taken(t, c.text)
		if got := places(x); got != c.want {
			t.Errorf("%q:\n%s, want\n%s", c.text, got, c.want)
		}
		follows(t, c.text, x)
	}
}
