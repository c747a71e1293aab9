package parse_test

import (
	"strings"
	"testing"
)

// P4.2: each line of the grammar of expressions.
func TestExprs(t *testing.T) {
	expr().all(t,
		"0", "Num 0",
		"9007199254740991", "Num 9007199254740991",
		"'a\\n'", "Str a\n",
		`""`, "Str ",
		"``", "Template [Str ]",
		"`a`", "Template [Str a]",
		"`a${b}`", "Template [Str a, b, Str ]",
		"`a${b}c${d + 1}e`", "Template [Str a, b, Str c, Binary + [d, Num 1], Str e]",
		"`${`${x => {}}`}`", "Template [Str , Template [Str , Arrow [L, L [Param x [-]], Block], Str ], Str ]",
		"`${{a}}`", "Template [Str , Object [Prop a [a]], Str ]",
		"true", "True", "false", "False", "null", "Null", "undefined", "Undefined", "this", "This",
		"a", "a", "(a)", "a", "((a))", "a",
		"[]", "Array", "[a]", "Array [a]", "[a, b = c, x => y]", "Array [a, Assign = [b, c], Arrow [L, L [Param x [-]], y]]",
		"{}", "Object", "{a}", "Object [Prop a [a]]", "{a,}", "Object [Prop a [a]]", "{a: 1}", "Object [Prop a [Num 1]]",
		"{a: 1, b, c: {}, }", "Object [Prop a [Num 1], Prop b [b], Prop c [Object]]",
		"{a: b = c, d: x => {}}", "Object [Prop a [Assign = [b, c]], Prop d [Arrow [L, L [Param x [-]], Block]]]",
		"new A()", "New [A, L, L]", "new A(1, b)", "New [A, L, L [Num 1, b]]", "new A<B, C>()", "New [A, L [:B, :C], L]",
		"new A.B.C<D<E>>(x)", "New [Member C [Member B [A]], L [TypeName D [L [:E]]], L [x]]",
		"new A()()", "Call [New [A, L, L], L, L]", "new A().b", "Member b [New [A, L, L]]",
		"super()", "Super [L]", "super(a, b)", "Super [L [a, b]]", "super.m", "SuperMember m", "super.m.n(a)", "Call [Member n [SuperMember m], L, L [a]]",
		"super()()", "Call [Super [L], L, L]",
		"a.b", "Member b [a]", "a.b.c", "Member c [Member b [a]]", "1.a", "Member a [Num 1]", "this.a", "Member a [This]", "'s'.a", "Member a [Str s]",
		"a[b]", "Index [a, b]", "a[b][c = d]", "Index [Index [a, b], Assign = [c, d]]", "[][0]", "Index [Array, Num 0]", "{}[0]", "Index [Object, Num 0]",
		"f()", "Call [f, L, L]", "f(a)", "Call [f, L, L [a]]", "f(a, b => c)", "Call [f, L, L [a, Arrow [L, L [Param b [-]], c]]]", "f()()", "Call [Call [f, L, L], L, L]",
		"f<A>()", "Call [f, L [:A], L]", "f<A, B[]>(a)", "Call [f, L [:A, TypeArray [:B]], L [a]]", "a.b<C>(d).e", "Member e [Call [Member b [a], L [:C], L [d]]]",
		"a!", "Bang [a]", "a!!", "Bang [Bang [a]]", "a!.b", "Member b [Bang [a]]", "f()!", "Bang [Call [f, L, L]]",
		"a!.b![0]!", "Bang [Index [Bang [Member b [Bang [a]]], Num 0]]",
		"`a`.b", "Member b [Template [Str a]]", "(x => y)(z)", "Call [Arrow [L, L [Param x [-]], y], L, L [z]]",
		"!a", "Unary ! [a]", "-a", "Unary - [a]", "~a", "Unary ~ [a]", "typeof a", "Unary typeof [a]", "-1", "Unary - [Num 1]",
		"!-~typeof a", "Unary ! [Unary - [Unary ~ [Unary typeof [a]]]]", "--a", "Unary - [Unary - [a]]", "-a.b", "Unary - [Member b [a]]", "!a!", "Unary ! [Bang [a]]", "typeof f(a)", "Unary typeof [Call [f, L, L [a]]]",
		"a ? b : c", "Cond [a, b, c]", "a ? b : c ? d : e", "Cond [a, b, Cond [c, d, e]]", "a ? b ? c : d : e", "Cond [a, Cond [b, c, d], e]", "a || b ? c : d", "Cond [Binary || [a, b], c, d]",
		"a ? b = c : d = e", "Cond [a, Assign = [b, c], Assign = [d, e]]", "(a ? b : c) ? d : e", "Cond [Cond [a, b, c], d, e]",
		"a as A", "As [a, :A]", "a as A as B", "As [As [a, :A], :B]", "a as A | B", "As [a, TypeUnion [:A, :B]]", "a as A[]", "As [a, TypeArray [:A]]", "-a as A", "As [Unary - [a], :A]", "a as {} ? b : c", "Cond [As [a, TypeObject], b, c]",
		"x => y", "Arrow [L, L [Param x [-]], y]", "x => y => z", "Arrow [L, L [Param x [-]], Arrow [L, L [Param y [-]], z]]", "x => {}", "Arrow [L, L [Param x [-]], Block]", "x => { return x; }", "Arrow [L, L [Param x [-]], Block [Return [x]]]",
		"x => ({})", "Arrow [L, L [Param x [-]], Object]", "x => y = z", "Arrow [L, L [Param x [-]], Assign = [y, z]]", "x => y ? a : b", "Arrow [L, L [Param x [-]], Cond [y, a, b]]",
		"() => a", "Arrow [L, L, a]", "(x) => a", "Arrow [L, L [Param x [-]], a]", "(x, y?: A, z?) => {}", "Arrow [L, L [Param x [-], Param y 1 [:A], Param z 1 [-]], Block]",
		"<T>(x: T) => x", "Arrow [L [TypeParam T], L [Param x [:T]], x]", "<T, U>() => {}", "Arrow [L [TypeParam T, TypeParam U], L, Block]",
		"a = b", "Assign = [a, b]", "a = b = c", "Assign = [a, Assign = [b, c]]", "a.b = c", "Assign = [Member b [a], c]", "a[b] = c", "Assign = [Index [a, b], c]", "f().a = b", "Assign = [Member a [Call [f, L, L]], b]",
		"a += b", "Assign += [a, b]", "a -= b", "Assign -= [a, b]", "a *= b", "Assign *= [a, b]", "a %= b", "Assign %= [a, b]", "a = x => y", "Assign = [a, Arrow [L, L [Param x [-]], y]]", "a = b ? c : d", "Assign = [a, Cond [b, c, d]]",
		"(a) = b", "Assign = [a, b]", "(a.b) = c", "Assign = [Member b [a], c]", "((a[b])) += c", "Assign += [Index [a, b], c]", "(a = b).c = d", "Assign = [Member c [Assign = [a, b]], d]",
	)
}

// levels is the chapter's levels of Binary, those that bind least first.
func levels() []string {
	return []string{"||", "&&", "|", "^", "&", "=== !==", "< <= > >= in", "<< >> >>>", "+ -", "* %"}
}

// P4.2: each sign with each other: what binds more goes first, what binds alike goes to the left.
func TestLevels(t *testing.T) {
	for i, left := range levels() {
		for j, right := range levels() {
			for _, p := range strings.Fields(left) {
				for _, q := range strings.Fields(right) {
					want := "Binary " + q + " [Binary " + p + " [a, b], c]"
					if j > i {
						want = "Binary " + p + " [a, Binary " + q + " [b, c]]"
					}
					expr().fits(t, "a "+p+" b "+q+" c", want)
					expr().fits(t, "(a "+p+" b) "+q+" c", "Binary "+q+" [Binary "+p+" [a, b], c]")
					expr().fits(t, "a "+p+" (b "+q+" c)", "Binary "+p+" [a, Binary "+q+" [b, c]]")
					expr().fits(t, "-a "+p+" !b", "Binary "+p+" [Unary - [a], Unary ! [b]]")
				}
			}
		}
	}
}

// P4.2: `as` is of the level of `<`.
func TestLevelOfAs(t *testing.T) {
	for i, signs := range levels() {
		for _, s := range strings.Fields(signs) {
			want := "Binary " + s + " [a, As [b, :A]]"
			if i >= 6 {
				want = "As [Binary " + s + " [a, b], :A]"
			}
			expr().fits(t, "a "+s+" b as A", want)
			if s == "|" {
				continue
			}
			switch {
			case s == "<":
				expr().refused(t, "a as A < b")
				expr().fits(t, "a as null < b", "Binary < [As [a, :null], b]")
			case i <= 6:
				expr().fits(t, "a as A "+s+" b", "Binary "+s+" [As [a, :A], b]")
			default:
				// Nothing that binds more goes on behind a type.
				expr().refused(t, "a as A "+s+" b")
			}
		}
	}
	expr().all(t,
		"x as A | B === y", "Binary === [As [x, TypeUnion [:A, :B]], y]",
		"(x as A) | B", "Binary | [As [x, :A], B]",
		"x as A & B", "Binary & [As [x, :A], B]",
		"x as A || B", "Binary || [As [x, :A], B]",
		"!a === b", "Binary === [Unary ! [a], b]",
		"a as A in b as B", "As [Binary in [As [a, :A], b], :B]",
	)
}

// P4.2: what is no expression.
func TestNoExpr(t *testing.T) {
	expr().refused(t,
		"", "a b", "a;", ";", "a,", "a, b", "()", "(a", "a)", "(a, b)", "[", "]", "[,]", "[a,]", "[a b]", "[a", "{", "}", "{,}", "{a,,}", "{a b}", "{a: }", "{: 1}", "{1: 2}", "{'a': 1}", "{a: 1; b: 2}", "{a = 1}", "{[a]: 1}", "{if}", "{a() {}}", "{a.b}",
		"a.", "a.1", "a.'b'", "a.if", "a.of", ".a", "a[", "a[]", "a[b, c]", "a[b", "f(", "f(a", "f(a,)", "f(,)", "f(a b)", "f(a;)", "a?.b", "a ?? b",
		"new", "new A", "new A.B", "new A<B>", "new A<B", "new A<>()", "new (A)()", "new this()", "new A.()", "new A[0]()", "new 1()", "new A!()", "new new A()",
		"super", "super.", "super[0]", "super!", "super<A>()", "super.1",
		"!", "-", "a ! b", "typeof", "a - ", "+a", "a++", "a + + b", "a *", "* a", "a ** b", "a == b", "a != b", "a instanceof b", "a <", "a < < b", "a =< b", "a in", "in a", "a && ", "a &&& b",
		"a ?", "a ? b", "a ? b :", "a ? : b", "a : b", "? a : b", "a ? b, c : d",
		"a as", "as A", "a as 1 + 2", "a as A.B()", "a as A b", "a as A => b", "a as +1", "a as A[0]", "a as (A",
		"=> a", "a =>", "() =>", "()", "(a) => ", "(a,) => b", "(a b) => c", "(1) => a", "(a = 1) => b", "((a)) => b", "([a]) => b", "({a}) => b", "(a, (b)) => c", "a, b => c", "a => b;", "<T>", "<T> a", "<T>a => b", "<>(a) => b", "<T,>(a) => b", "<T>(a)", "<1>(a) => b", "<T>((a)) => b", "(a): A => b", "<T>(a): T => b", "(a).b => c", "a.b => c", "a => { return b }", "a => {b: 1}", "a => {} + 1", "a => {}()", "!a => b", "1 + a => b", "a + (b) => c", "a || b => c", "1 => a", "this => a",
		"= a", "a =", "a = ", "1 = 2", "a + b = c", "-a = b", "a! = b", "f() = a", "a ? b : c = ", "(a, b) = c", "this = a", "super.a = b", "{} = a", "[] = a", "'a' = b", "`a` = b", "(a = b) = c", "a = b + c = d", "(a => b) = c", "a as A = b", "new A() = b", "null = a", "typeof a = b", "(a + b) += c", "a ||= b", "a === = b", "true = 1", "(-a) *= b", "super() = a",
		"if", "let", "function () {}", "class {}", "async a => b", "`${}`", "`${a b}`", "`${a,}`", "`${a;}`", "`a` `b` c", "`${a}` b", "'a' 'b'", "1 2", "a 1",
	)
}

// P4.2: a string or a template that says what a word or a sign is, is none.
func TestTokensThatSay(t *testing.T) {
	expr().refused(t, "a '+' b", "a 'in' b", "'(' a )", "a '.' b", "a 'as' A", "a `=>` b", "'typeof' a", "'new' A()", "'-' a", "'super'.m => a")
	program().refused(t, "'let' x = 1;", "a ';'", "'if' (a) {}", "let x '=' 1;", "'{' '}'", "for ('let' x of a) {}", "for (let x 'of' a) {}", "'const' enum E {}", "const 'enum' E {}", "class C { 'readonly' x; }", "class C { 'constructor'() {} }")
	typ().refused(t, "'|' A", "A '|' B", "'-' 1", "'(' A )", "A '[' ']'")
	expr().all(t, "'this'", "Str this", "`null`", "Template [Str null]", "'=>'", "Str =>")
	typ().all(t, "'null'", "TypeStr null", "'('", "TypeStr (", "''", "TypeStr ")
}
