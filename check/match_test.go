package check_test

import "testing"

// matches holds calls of f, with its Params, against what its parameters are matched by: f answers {t: T; u: U}.
func matches(t *testing.T, head, params string, rows ...[3]string) {
	t.Helper()
	for _, r := range rows {
		text := head + " function f<T, U>(" + params + "): {t: T; u: U} { return 1 as any; } function g<V>(v: V, n: number, ns: number | string, nu: number | null | undefined, l: 1[], an: any, un: unknown, ne: never) { print(@f(" + r[0] + ")); }"
		hasTypes(t, typed{"Call", text, "{t: " + r[1] + "; u: " + r[2] + "}"})
	}
}

// P12.1: a parameter is matched by an argument's Widened type, once, in the order of the arguments.
func TestMatchVar(t *testing.T) {
	matches(t, "", "a: T, b: U, c?: T", [3]string{"1, \"a\"", "number", "string"}, [3]string{"n, ns", "number", "number | string"}, [3]string{"true, null", "false | true", "null"}, [3]string{"v, [v]", "V'", "V'[]"}, [3]string{"an, un", "any", "unknown"}, [3]string{"ne, undefined", "never", "undefined"}, [3]string{"{a: 1}, [1, \"\"]", "{a: number}", "(number | string)[]"}, [3]string{"() => 1, l", "() => number", "number[]"}, [3]string{"1, 2, \"\"", "number", "number"}, [3]string{"1", "number", "unknown"}, [3]string{"", "unknown", "unknown"}, [3]string{"1, 2, 3, 4", "number", "number"})
	matches(t, "", "a: T, b: T, c?: U", [3]string{"1, \"\"", "number", "unknown"}, [3]string{"\"\", 1", "string", "unknown"}, [3]string{"null, 1, 2", "null", "number"})
	refuses(t, offence{"Str", "function f<T>(a: T, b: T) {} f(1, @\"\");"}, offence{"Num", "function f<T>(a: T, b: T) {} f(null, @1);"})
	takes(t, "function f<T>(a: T, b: T) {} f(1, 2); f<number | string>(1, \"\"); f(\"\" as string | number, 1);")
	// By nothing: unknown.
	takes(t, "function f<T>(g: (x: T) => void): T { return 1 as any; } const u: unknown = f((x) => {});")
	matches(t, "", "a?: number", [3]string{"1", "unknown", "unknown"}, [3]string{"", "unknown", "unknown"})
}

// P12.1: arrays, functions, references, pieces.
func TestMatchParts(t *testing.T) {
	matches(t, "", "a: T[], b: U[][]", [3]string{"[1]", "number", "unknown"}, [3]string{"[]", "never", "unknown"}, [3]string{"l, [[\"\"]]", "number", "string"}, [3]string{"n", "unknown", "unknown"}, [3]string{"an", "unknown", "unknown"}, [3]string{"[[1]], [1]", "number[]", "unknown"}, [3]string{"(1 as any as number[] | null)", "unknown", "unknown"})
	matches(t, "", "a: (x: T, y: U) => T", [3]string{"(x: number, y: string) => 1", "number", "string"}, [3]string{"(x: number) => \"\"", "number", "unknown"}, [3]string{"() => 1", "number", "unknown"}, [3]string{"(x, y: 1 | null, z?: string) => 1", "any", "null | number"}, [3]string{"() => {}", "void", "unknown"})
	matches(t, "", "a: T[], b: {p: U}", [3]string{"() => 1, () => 2", "unknown", "unknown"}, [3]string{"(x: 1) => 1, [1]", "unknown", "unknown"}, [3]string{"{p: 1}, (x: {p: 1}) => 1", "unknown", "unknown"})
	matches(t, "", "a: (x: T) => U", [3]string{"[1]", "unknown", "unknown"}, [3]string{"{x: 1}", "unknown", "unknown"}, [3]string{"n", "unknown", "unknown"})
	matches(t, "", "a: () => (y: U) => T", [3]string{"() => (y: 1) => \"\"", "string", "number"})
	matches(t, "interface I<A, B> { a: A; b: B } class C<A> { constructor(public a: A) {} }", "a: I<T, U[]>", [3]string{"1 as any as I<1, 2[]>", "number", "number"}, [3]string{"{a: 1, b: [\"\"]}", "number", "string"}, [3]string{"1 as any as I<T1, 1>", "any", "unknown"}, [3]string{"new C(1)", "number", "unknown"})
	matches(t, "class C<A> { constructor(public a: A) {} } class D extends C<string> {} class E<B> extends C<B[]> {}", "a: C<T>, b: E<U>", [3]string{"new C(1)", "number", "unknown"}, [3]string{"new D(\"\")", "string", "unknown"}, [3]string{"new E([1])", "number[]", "unknown"}, [3]string{"{a: null}, new E([1])", "null", "number"}, [3]string{"new C(1), new C([\"\"])", "number", "string"}, [3]string{"new C(1), {a: [\"\"]}", "number", "string"})
	matches(t, "", "a: {p: T; q?: U; r: (x: T) => 1}", [3]string{"{p: 1, q: \"\", r: () => 1}", "number", "string"}, [3]string{"{q: 1}", "unknown", "number"}, [3]string{"{}", "unknown", "unknown"}, [3]string{"{r: (x: string) => 1, p: 1}", "number", "unknown"}, [3]string{"1 as any as {q?: 1; p: 2}", "number", "number"}, [3]string{"n", "unknown", "unknown"}, [3]string{"l", "unknown", "unknown"})
	// By the Param's Names, rising: a's comes first.
	matches(t, "", "x: {b: T; a: T}", [3]string{"{b: 1, a: \"\"}", "string", "unknown"}, [3]string{"{a: 1, b: \"\"}", "number", "unknown"})
	// An argument that is a union matches nothing but a parameter.
	matches(t, "", "a: {p: T}, b?: U", [3]string{"(1 as any as {p: 1} | {p: 2})", "unknown", "unknown"}, [3]string{"{p: 1}, ns", "number", "number | string"})
}

// P12.1: unions in a Param.
func TestMatchUnions(t *testing.T) {
	matches(t, "", "a: T | null, b?: U | T[]", [3]string{"1", "number", "unknown"}, [3]string{"nu", "number | undefined", "unknown"}, [3]string{"null", "never", "unknown"}, [3]string{"ns", "number | string", "unknown"}, [3]string{"an", "any", "unknown"}, [3]string{"1, \"\"", "number", "string"}, [3]string{"1, [\"\"]", "number", "string[]"}, [3]string{"ne", "never", "unknown"}, [3]string{"l, undefined", "number[]", "never"})
	matches(t, "", "a: T | U | string", [3]string{"ns", "number", "number"}, [3]string{"\"a\"", "string", "string"}, [3]string{"(\"\" as string)", "never", "never"}, [3]string{"true", "false | true", "false | true"})
	matches(t, "", "a: T[] | {p: U} | number", [3]string{"[1]", "unknown", "unknown"}, [3]string{"{p: 1}", "unknown", "unknown"})
	matches(t, "", "a?: T", [3]string{"1", "number", "unknown"}, [3]string{"undefined", "never", "unknown"}, [3]string{"nu", "null | number", "unknown"})
	matches(t, "", "a: {p: T | null}[], b: (x: U | 1) => T | undefined", [3]string{"[{p: 1}]", "number", "unknown"}, [3]string{"[], (x: 1 | 2) => 1", "number", "number"})
	// One that may lack is a union with undefined: of its parts parameters alone are matched.
	matches(t, "", "a?: T[], b?: {p: U}", [3]string{"[1], {p: 1}", "unknown", "unknown"})
	// Its parts are held against the union's as they are.
	matches(t, "", "a: T | 1", [3]string{"1", "never", "unknown"}, [3]string{"(1 as 1 | 2)", "number", "unknown"}, [3]string{"n", "number", "unknown"})
}

// P12.1: a pair that was matched already matches nothing.
func TestMatchAgain(t *testing.T) {
	matches(t, "interface L<A> { head: A; tail: L<A> | null; me: L<A> } interface M { head: number; tail: M | null; me: M }", "a: L<T>, b: L<U>", [3]string{"1 as any as M", "number", "unknown"}, [3]string{"1 as any as M, 1 as any as M", "number", "number"}, [3]string{"1 as any as L<1>, 1 as any as M", "number", "number"})
	matches(t, "interface A<X> { a: B<X>; z: X } interface B<X> { b: A<X> } interface C { a: D; z: number } interface D { b: C }", "a: A<T>", [3]string{"1 as any as C", "number", "unknown"})
	// A parameter that a pair was matched with by nothing is matched by another pair.
	matches(t, "", "a: T[], b: T[], c: T[]", [3]string{"n, n, [1]", "number", "unknown"}, [3]string{"n, [\"\"], [1]", "string", "unknown"})
	takes(t, "interface L<A> { head: A; tail: L<A> | null } class N { head: number = 1; tail: N | null = null; } function f<T>(l: L<T>): T { return l.head; } let n: number = f(new N());")
}

// P12.1: parameters of the one that calls are no parameters of the one that is called.
func TestMatchWithin(t *testing.T) {
	hasTypes(t,
		typed{"Call", "function f<T>(x: T): T { return print(@f([x])); }", "T'[]"},
		typed{"Call", "function f<T>(x: T[]): T { print(@f([x])); return x[0]; }", "T'[]"},
		typed{"Call", "function f<T>(x: T | null): T { print(@f(x)); throw 1; }", "never"},
		typed{"Call", "function f<T>(x: T): T { return x; } function g<T>(x: T): T { return print(@f(x)); }", "T'"},
		typed{"Call", "class C<T> { constructor(public v: T) {} m<U>(u: U): {t: T; u: U} { print(@this.m([u])); return 1 as any; } }", "{t: T'; u: U'[]}"},
	)
	takes(t, "function f<T>(x: T): T { return f(x); }", "function f<T>(x: T, n: number): T { return n === 0 ? x : f(x, n - 1); }", "function f<T>(l: T[], g: (x: T) => T): T[] { return f(l, g); }")
}
