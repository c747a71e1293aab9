package parse_test

import (
	"strings"
	"testing"

	"shuck/api"
	"shuck/parse"
)

// Rule 1: a Stmt that begins with `{`, with `const`, with `for (`.
func TestFirstWords(t *testing.T) {
	program().all(t,
		"{}", "Program [Block]",
		"{a;}", "Program [Block [Eval [a]]]",
		"{};", "Program [Block, Empty]",
		"{} [a];", "Program [Block, Eval [Array [a]]]",
		"{} (a);", "Program [Block, Eval [a]]",
		"{} (a) => b;", "Program [Block, Eval [Arrow [L, L [Param a [-]], b]]]",
		"const enum E {}", "Program [Enum E 1]",
		"const e = 1;", "Program [Var e 1 [-, Num 1]]",
		"for (let a of b) {}", "Program [ForOf a [b, Block]]",
		"for (const a of b) {}", "Program [ForOf a 1 [b, Block]]",
		"for (let a = b;;) {}", "Program [For [Var a [-, b], -, -, Block]]",
		"for (let a = b in c;;) {}", "Program [For [Var a [-, Binary in [b, c]], -, -, Block]]",
	)
	program().refused(t, "{a};", "{a: 1};", "{a, b};", "{}.a;", "{} = a;", "{} => a;", "const {} = a;", "const enum = 1;", "for (const a = b;;) {}", "for (let of of a) {}", "for (let a, b of c) {}")
}

// Rule 2: Arrows by a Name, by `<`, and by `(` and what closes it.
func TestArrowAhead(t *testing.T) {
	expr().all(t,
		"a => b", "Arrow [L, L [Param a [-]], b]",
		"<T>() => b", "Arrow [L [TypeParam T], L, b]",
		"(a) => b", "Arrow [L, L [Param a [-]], b]",
		"(a)", "a",
		"(a)(b)", "Call [a, L, L [b]]",
		"(a) ? (b) : c => d", "Cond [a, b, Arrow [L, L [Param c [-]], d]]",
		"(a) ? (b) => c : d", "Cond [a, Arrow [L, L [Param b [-]], c], d]",
		"a ? (b) : (c) => d", "Cond [a, b, Arrow [L, L [Param c [-]], d]]",
		"((a) => b)", "Arrow [L, L [Param a [-]], b]",
		"((a))", "a",
		"(a => b)", "Arrow [L, L [Param a [-]], b]",
		"(a: {b: A, c(x): B}, d: (x: A) => B) => c", "Arrow [L, L [Param a [TypeObject [TypeProp b [:A], TypeProp c [TypeFunc [L [Param x [-]], :B]]]], Param d [TypeFunc [L [Param x [:A]], :B]]], c]",
		"(a: A[], b: {}[][]) => c", "Arrow [L, L [Param a [TypeArray [:A]], Param b [TypeArray [TypeArray [TypeObject]]]], c]",
		"f((a) => b, (c), [d => e])", "Call [f, L, L [Arrow [L, L [Param a [-]], b], c, Array [Arrow [L, L [Param d [-]], e]]]]",
		"(`${(a)}`)", "Template [Str , a, Str ]",
		"(`${(a) => b}`)", "Template [Str , Arrow [L, L [Param a [-]], b], Str ]",
		"a = (b) => c", "Assign = [a, Arrow [L, L [Param b [-]], c]]",
		"(a) = b", "Assign = [a, b]",
		"() => () => {}", "Arrow [L, L, Arrow [L, L, Block]]",
	)
	expr().refused(t, "(a => b) => c", "((a)) => b", "(a", "(a =>", "(a] => b", "(a} => b", "(a)) => b", "(`${a}`) => b", "(a).b => c", "(a) + (b) => c", "-(a) => b", "(a)(b) => c", "new A(b) => c", "f(a) => b", "a(b => c", "<T>(a)", "<a", "< a + b", "a = > b")
	typ().all(t,
		"(A)", ":A", "(A) => B", "TypeFunc [L [Param A [-]], :B]", "((A) => B)", "TypeFunc [L [Param A [-]], :B]", "((A)) | B", "TypeUnion [:A, :B]", "(A)[]", "TypeArray [:A]",
		"(x: A[]) => B[]", "TypeFunc [L [Param x [TypeArray [:A]]], TypeArray [:B]]",
		"({}) | A", "TypeUnion [TypeObject, :A]", "(x: {a: (y) => A}) => B", "TypeFunc [L [Param x [TypeObject [TypeProp a [TypeFunc [L [Param y [-]], :A]]]]], :B]",
	)
	typ().refused(t, "((A)) => B", "(A", "(A] => B", "(A | B) => C", "()", "() | A", "({}) => A")
	program().fits(t, "x as (a) => b;", "Program [Eval [As [x, TypeFunc [L [Param a [-]], :b]]]]")
	program().fits(t, "let f: (a) => b = (a) => b;", "Program [Var f [TypeFunc [L [Param a [-]], :b], Arrow [L, L [Param a [-]], b]]]")
}

// Rule 3: the `<` that begins TypeArgs, and the one that is a sign.
func TestTypeArgsAhead(t *testing.T) {
	expr().all(t,
		"f<A>(b)", "Call [f, L [:A], L [b]]",
		"a < b > c", "Binary > [Binary < [a, b], c]",
		"a < b > (c)", "Call [a, L [:b], L [c]]",
		"a < b >= (c)", "Binary >= [Binary < [a, b], c]",
		"a < b >> (c)", "Binary < [a, Binary >> [b, c]]",
		"a < b >>> (c)", "Binary < [a, Binary >>> [b, c]]",
		"a<b<c>>(d)", "Call [a, L [TypeName b [L [:c]]], L [d]]",
		"a<b<c<d>>>(e)", "Call [a, L [TypeName b [L [TypeName c [L [:d]]]]], L [e]]",
		"a<b<c>(d)", "Binary < [a, Call [b, L [:c], L [d]]]",
		"a<b<c", "Binary < [Binary < [a, b], c]",
		"a<b<c>>d", "Binary < [Binary < [a, b], Binary >> [c, d]]",
		"a<b<c>>>(d)", "Binary < [Binary < [a, b], Binary >>> [c, d]]",
		"f(a < b, c > (d))", "Call [f, L, L [Call [a, L [:b, :c], L [d]]]]",
		"f(a < b, c > d)", "Call [f, L, L [Binary < [a, b], Binary > [c, d]]]",
		"f(a < b, c >= (d))", "Call [f, L, L [Binary < [a, b], Binary >= [c, d]]]",
		"a < (b) > (c)", "Call [a, L [:b], L [c]]",
		"a < (b + 1) > (c)", "Binary > [Binary < [a, Binary + [b, Num 1]], c]",
		"a < 1 > (c)", "Call [a, L [TypeNum 1], L [c]]",
		"a < -1 > (c)", "Call [a, L [TypeNum -1], L [c]]",
		"a < - b > (c)", "Binary > [Binary < [a, Unary - [b]], c]",
		"a < 'x' > (c)", "Call [a, L [TypeStr x], L [c]]",
		"a < `x` > (c)", "Binary > [Binary < [a, Template [Str x]], c]",
		"a < {} > (c)", "Call [a, L [TypeObject], L [c]]",
		"a < {b} > (c)", "Binary > [Binary < [a, Object [Prop b [b]]], c]",
		"a < {b: c} > (d)", "Call [a, L [TypeObject [TypeProp b [:c]]], L [d]]",
		"a < null > (c)", "Call [a, L [:null], L [c]]",
		"a < this > (c)", "Binary > [Binary < [a, This], c]",
		"a < b[] > (c)", "Call [a, L [TypeArray [:b]], L [c]]",
		"a < b[0] > (c)", "Binary > [Binary < [a, Index [b, Num 0]], c]",
		"a < b | c > (d)", "Call [a, L [TypeUnion [:b, :c]], L [d]]",
		"a < b || c > (d)", "Binary || [Binary < [a, b], Binary > [c, d]]",
		"a < b.c > (d)", "Call [a, L [:b.c], L [d]]",
		"a < b() > (c)", "Binary > [Binary < [a, Call [b, L, L]], c]",
		"a < (b) => c > (d)", "Call [a, L [TypeFunc [L [Param b [-]], :c]], L [d]]",
		"1 < b > (c)", "Call [Num 1, L [:b], L [c]]",
		"-a < b > (c)", "Unary - [Call [a, L [:b], L [c]]]",
		"a + b < c > (d)", "Binary + [a, Call [b, L [:c], L [d]]]",
		"a<b>(c)<d>(e)", "Call [Call [a, L [:b], L [c]], L [:d], L [e]]",
		"a<b>(c) < d", "Binary < [Call [a, L [:b], L [c]], d]",
		"a < b as c > (d)", "Binary > [As [Binary < [a, b], :c], d]",
		"a as null < b > (c)", "Binary > [Binary < [As [a, :null], b], c]",
		"a as A<b> < c", "Binary < [As [a, TypeName A [L [:b]]], c]",
		"f<A>[0]", "Binary > [Binary < [f, A], Array [Num 0]]",
		"a<b>`x`", "Binary > [Binary < [a, b], Template [Str x]]",
		"new A<b>(c)", "New [A, L [:b], L [c]]",
		"new A()<b>(c)", "Call [New [A, L, L], L [:b], L [c]]",
		"super.m<b>(c)", "Call [SuperMember m, L [:b], L [c]]",
		"a!<b>(c)", "Call [Bang [a], L [:b], L [c]]",
	)
	expr().refused(t, "f<>(a)", "f<A>", "f<A>.b", "f<A,>(b)", "a < b > > (c)", "a as A < b", "a as A<b>(c)", "new A<b", "new A<b + 1>(c)", "f<A>(b", "f<A>(b,)", "super<A>()", "a<b<c>(d", "a < b, c")
	program().refused(t, "class C extends D<1 + 2> {}", "class C extends D< {}", "let x: A < B = 1;")
}

// Rule 4: signs that end lists of types, and what is left of them.
func TestSplitSigns(t *testing.T) {
	program().all(t,
		"let v: A<B>= 1;", "Program [Var v [TypeName A [L [:B]], Num 1]]",
		"let v: A<B<C>>= 1;", "Program [Var v [TypeName A [L [TypeName B [L [:C]]]], Num 1]]",
		"let v: A<B<C<D>>>= 1;", "Program [Var v [TypeName A [L [TypeName B [L [TypeName C [L [:D]]]]]], Num 1]]",
		"let v: A<B<C<D<E>>>>= 1;", "Program [Var v [TypeName A [L [TypeName B [L [TypeName C [L [TypeName D [L [:E]]]]]]]], Num 1]]",
		"let v: A<B<C>, D<E>>[] = 1;", "Program [Var v [TypeArray [TypeName A [L [TypeName B [L [:C]], TypeName D [L [:E]]]]], Num 1]]",
		"type T<A>= B;", "Program [Alias T [L [TypeParam A], :B]]",
		"type T<A>= B<C<D>>;", "Program [Alias T [L [TypeParam A], TypeName B [L [TypeName C [L [:D]]]]]]",
		"class C { x: A<B>= 1; y: A<B<C>>= (z) => z; }", "Program [Class C [L, -, L, L [Field x [TypeName A [L [:B]], Num 1], Field y [TypeName A [L [TypeName B [L [:C]]]], Arrow [L, L [Param z [-]], z]]]]]",
		"class C<T> extends D<E<T>> {}", "Program [Class C [L [TypeParam T], Base D [L [TypeName E [L [:T]]]], L, L]]",
		"f<A<B>>(c);", "Program [Eval [Call [f, L [TypeName A [L [:B]]], L [c]]]]",
		"new A<B<C>>();", "Program [Eval [New [A, L [TypeName B [L [:C]]], L]]]",
		"x as A<B>> c;", "Program [Eval [Binary > [As [x, TypeName A [L [:B]]], c]]]",
		"x as A<B<C>>> d;", "Program [Eval [Binary > [As [x, TypeName A [L [TypeName B [L [:C]]]]], d]]]",
		"x as A<B> >= c;", "Program [Eval [Binary >= [As [x, TypeName A [L [:B]]], c]]]",
	)
	program().refused(t,
		"let v: A<B>== 1;", "let v: A<B>> = 1;", "let v: A<B>>= 1;", "type T<A>== B;", "type T<A>> = B;", "class C<T>> {}", "function f<T>>() {}", "f<A>>(c) d;", "new A<B>>();",
		"x as A<B>>> c;", "x as A<B>= c;", "x as A<B>>= c;", "class C extends D<E>> {}", "let v: A<B = 1;", "let v: A<B< = 1;", "x as A<B>>;",
		// What is left of a sign and what stands behind it are two tokens.
		"let f: A<B>=> c = 1;", "<T>(x: A<T>=> x;", "let v: A<B>>>== 1;",
	)
	typ().refused(t, "A<B>>", "A<B<C>>>", "A<B>=")
	x := program().taken(t, "let v: A<B>=(c);")
	if at := x.Nodes[len(x.Nodes)-1].At; at != 13 {
		t.Errorf("At behind what is left of a sign: %d", at)
	}
}

// Rule 5: Bodies, else, Methods and Fields.
func TestBodiesElseMethods(t *testing.T) {
	program().all(t,
		"x => {};", "Program [Eval [Arrow [L, L [Param x [-]], Block]]]",
		"x => {a;};", "Program [Eval [Arrow [L, L [Param x [-]], Block [Eval [a]]]]]",
		"x => [{}];", "Program [Eval [Arrow [L, L [Param x [-]], Array [Object]]]]",
		"if (a) { if (b) {} else {;} }", "Program [If [a, Block [If [b, Block, Block [Empty]]], -]]",
		"if (a) { if (b) {} } else {;}", "Program [If [a, Block [If [b, Block, -]], Block [Empty]]]",
		"if (a) {} else if (b) {} else {;}", "Program [If [a, Block, If [b, Block, Block [Empty]]]]",
		"if (a) {} if (b) {} else {}", "Program [If [a, Block, -], If [b, Block, Block]]",
		"class C { m() {} m; m<T>() {} n = 1; }", "Program [Class C [L, -, L, L [Method m [L, L, -, Block], Field m [-, -], Method m [L [TypeParam T], L, -, Block], Field n [-, Num 1]]]]",
	)
	program().refused(t, "x => {a};", "x => {a: 1};", "x => {a, b};", "x => {}.a;", "class C { m<T; }", "class C { m< 1; }", "class C { m(; }", "class C { m = 1 }")
}

// P4.1: many `<`, none of which begins TypeArgs, and many that could: each is looked at a few times only, or this does not end in a day.
func TestManyAngles(t *testing.T) {
	for _, text := range []string{
		strings.Repeat("a<", api.MaxTokens/2-1) + "a",
		strings.Repeat("a<b,", api.MaxTokens/4-1) + "a",
		strings.Repeat("a<(b)=>", api.MaxTokens/6-1) + "a",
		strings.Repeat("a<", api.MaxTokens/3) + "a" + strings.Repeat(">", api.MaxTokens/4),
		strings.Repeat("a<", api.MaxTokens/3) + "a" + strings.Repeat("> ", api.MaxTokens/3-10),
		strings.Repeat(strings.Repeat("(", 60)+"a<b"+strings.Repeat(")", 60)+"<", 60) + "c",
		strings.Repeat("a<{b:", 60) + "a" + strings.Repeat("}", 60),
	} {
		for _, r := range []reading{expr(), program(), typ()} {
			if x, at, e := r.call([]byte(text)); e != api.OK && (e != api.ErrSyntax || at < 0 || at > len(text) || x.Nodes != nil) {
				t.Errorf("%s(%.20q..): %d, %v", r.word, text, at, e)
			}
		}
	}
	n := api.MaxTokens/2 - 1
	x := expr().taken(t, strings.Repeat("a<", n)+"a")
	if len(x.Nodes) != 2*n+1 || x.Nodes[0].Kind != api.Binary || x.Nodes[n].Kind != api.Name {
		t.Errorf("%d nodes", len(x.Nodes))
	}
	n = api.MaxTokens / 4
	x = expr().taken(t, strings.Repeat("a<", n)+"a"+strings.Repeat(">", n)+"(b)")
	if x.Nodes[0].Kind != api.Call || x.Nodes[len(x.Nodes)-1].Text != "b" {
		t.Errorf("no call: %v", x.Nodes[0])
	}
	if _, _, e := parse.Type([]byte(strings.Repeat("a<", n) + "a" + strings.Repeat(">", n))); e != api.OK {
		t.Error(e)
	}
}
