package parse_test

import "testing"

// P4.2: each line of the grammar of types.
func TestTypes(t *testing.T) {
	typ().all(t,
		"A", ":A", "(A)", ":A", "((A))", ":A", "| A", ":A", "(| A)", ":A",
		"A.B", ":A.B", "A . B\n.C", ":A.B.C", "A<B>", "TypeName A [L [:B]]", "A.B<C, D>", "TypeName A.B [L [:C, :D]]", "A<B<C>, D[]>", "TypeName A [L [TypeName B [L [:C]], TypeArray [:D]]]", "A<| B | C>", "TypeName A [L [TypeUnion [:B, :C]]]",
		"null", ":null", "undefined", ":undefined", "true", ":true", "false", ":false", "number", ":number", "never", ":never",
		"0", "TypeNum 0", "9007199254740991", "TypeNum 9007199254740991", "-1", "TypeNum -1", "-9007199254740991", "TypeNum -9007199254740991", "-0", "TypeNum 0", "- 1", "TypeNum -1",
		"'a'", "TypeStr a", `"é\n"`, "TypeStr é\n",
		"A[]", "TypeArray [:A]", "A[][]", "TypeArray [TypeArray [:A]]", "(A | B)[]", "TypeArray [TypeUnion [:A, :B]]", "null[]", "TypeArray [:null]", "{}[]", "TypeArray [TypeObject]", "-1[]", "TypeArray [TypeNum -1]", "A<B>[]", "TypeArray [TypeName A [L [:B]]]",
		"A | B", "TypeUnion [:A, :B]", "A | B | C", "TypeUnion [:A, :B, :C]", "| A | B", "TypeUnion [:A, :B]", "(A | B) | C", "TypeUnion [TypeUnion [:A, :B], :C]", "A | (B | C)", "TypeUnion [:A, TypeUnion [:B, :C]]", "A | B[]", "TypeUnion [:A, TypeArray [:B]]", "A | A", "TypeUnion [:A, :A]",
		"() => A", "TypeFunc [L, :A]", "(x) => A", "TypeFunc [L [Param x [-]], :A]", "(x: A, y?: B, z?) => C", "TypeFunc [L [Param x [:A], Param y 1 [:B], Param z 1 [-]], :C]", "() => () => A", "TypeFunc [L, TypeFunc [L, :A]]",
		"() => A | B", "TypeFunc [L, TypeUnion [:A, :B]]", "A | () => B | C", "TypeUnion [:A, TypeFunc [L, TypeUnion [:B, :C]]]", "() => A[]", "TypeFunc [L, TypeArray [:A]]", "(() => A)[]", "TypeArray [TypeFunc [L, :A]]", "(() => A) | B", "TypeUnion [TypeFunc [L, :A], :B]", "() => | A", "TypeFunc [L, :A]",
		"(f: (x: A) => B) => C", "TypeFunc [L [Param f [TypeFunc [L [Param x [:A]], :B]]], :C]", "((x) => A)", "TypeFunc [L [Param x [-]], :A]",
		"{}", "TypeObject", "{a: A}", "TypeObject [TypeProp a [:A]]", "{a: A;}", "TypeObject [TypeProp a [:A]]", "{a: A,}", "TypeObject [TypeProp a [:A]]", "{a?: A | B, b: {};}", "TypeObject [TypeProp a 1 [TypeUnion [:A, :B]], TypeProp b [TypeObject]]", "{a: A; b: B, c: C}", "TypeObject [TypeProp a [:A], TypeProp b [:B], TypeProp c [:C]]",
		"{m(): A}", "TypeObject [TypeProp m [TypeFunc [L, :A]]]", "{m(x?: A, y): B; n(): () => C}", "TypeObject [TypeProp m [TypeFunc [L [Param x 1 [:A], Param y [-]], :B]], TypeProp n [TypeFunc [L, TypeFunc [L, :C]]]]", "{a: (x) => A}", "TypeObject [TypeProp a [TypeFunc [L [Param x [-]], :A]]]",
	)
}

// P4.2: what is no type.
func TestNoType(t *testing.T) {
	typ().refused(t,
		"", "|", "A |", "| | A", "A || B", "A | | B", "A B", "A;", "A,", "A &  B", "()", "(A", "A)", "(A, B)", "() =>", "=> A", "(A) = > B", "() => ()", "A => B", "<T>() => T", "((A)) => B", "(A[]) => B", "(x = 1) => A", "(x,) => A", "(x: ) => A", "(1) => A",
		"A.", ".A", "A.1", "A.null", "A.if", "null.A", "null<A>", "A<", "A<>", "A<B", "A<B,>", "A<,B>", "A<B C>", "A<B>>", "A<B>C", "A<B><C>", "<A>", "A >", "A<B>.C", "1<A>", "'a'<A>", "A[]<B>", "(A)<B>",
		"[]", "A[", "A]", "A[B]", "A[0]", "[A]", "A[,]", "-", "- A", "--1", "-'a'", "+1", "1 + 2", "- -1", "1.A", "typeof a", "this", "new", "void 0", "super", "keyof A",
		"`a`", "`${A}`", "{", "}", "{;}", "{,}", "{a}", "{a:}", "{a: A b: B}", "{a: A;;}", "{a: A,;}", "{a: A;,}", "{1: A}", "{'a': A}", "{a?: }", "{a? A}", "{a??: A}", "{m()}", "{m() => A}", "{m?(): A}", "{m<T>(): T}", "{(): A}", "{[a]: A}", "{readonly a: A}", "{m(: A}", "{m(x,): A}", "{a.b: A}", "{a: A", "{if: A}",
	)
}
