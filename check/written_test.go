package check_test

import "testing"

// asked is a text in which a name of the type that is written must be of that type.
func asked(head, written, want string) typed {
	return typed{"Name", head + " function asked(zz: " + written + ") { print(@zz); }", want}
}

// P12.1: each kind of type that is written.
func TestWritten(t *testing.T) {
	hasTypes(t,
		asked("", "7", "7"), asked("", "-7", "-7"), asked("", "-0", "0"), asked("", "9007199254740991", "9007199254740991"),
		asked("", `"a\n"`, `"a\n"`), asked("", `""`, `""`),
		asked("", "number[]", "number[]"), asked("", "(1 | 2)[][]", "(1 | 2)[][]"),
		asked("", "string | number | string", "number | string"), asked("", "1 | number", "number"), asked("", "any | 1", "any"), asked("", "never | 1", "1"),
		asked("", "{}", "{}"), asked("", "{b: number; a?: string}", "{a?: string; b: number}"), asked("", "{m(x: number): string}", "{m: (number) => string}"),
		asked("", "() => void", "() => void"), asked("", "(a: number, b: string) => any", "(number, string) => any"),
		asked("", "(a) => void", "(any) => void"),
	)
}

// P12.1: what always means itself, whatever is declared.
func TestThemselves(t *testing.T) {
	for _, word := range []string{"number", "string", "any", "unknown", "never", "void", "null", "undefined", "true", "false"} {
		hasTypes(t, asked("", word, word))
	}
	hasTypes(t, asked("", "boolean", "false | true"))
	for _, word := range []string{"number", "string", "any", "unknown", "never", "void", "boolean"} {
		want := word
		if word == "boolean" {
			want = "false | true"
		}
		hasTypes(t,
			asked("interface "+word+" { a: 1 }", word, want),
			asked("type "+word+" = 1;", word, want),
			asked("class "+word+" {}", word, want),
			asked("enum "+word+" {}", word, want),
			typed{"Name", "function f<" + word + ">(zz: " + word + ") { print(@zz); }", want},
		)
		// By more names they may be what is declared.
		hasTypes(t, asked("namespace N { export interface "+word+" {} }", "N."+word, word+"#"))
		refuses(t, offence{"Interface", "type " + word + " = 1; @interface " + word + " {}"})
	}
}

// P12.1: what has types in its List that may have none.
func TestNoList(t *testing.T) {
	for _, word := range []string{"number", "string", "any", "unknown", "never", "void", "boolean"} {
		refuses(t, offence{"TypeName", "let x: @" + word + "<1> = 1 as any;"})
		hasTypes(t, asked("", word+"<string>", "any"))
	}
	refuses(t,
		offence{"TypeName", "function f<T>(x: @T<1>) {}"},
		offence{"TypeName", "enum E { A } let x: @E<1> = E.A;"},
		offence{"TypeName", "enum E { A } let x: @E.A<1> = E.A;"},
		offence{"TypeName", "interface I {} let x: @I<1> = {};"},
		offence{"TypeName", "class C {} let x: @C<1> = new C();"},
		offence{"TypeName", "type A = 1; let x: @A<1> = 1;"},
		offence{"TypeName", "namespace N { export type A = 1; } let x: @N.A<1> = 1;"},
	)
	hasTypes(t, asked("interface I {}", "I<1>", "any"), asked("enum E { A }", "E.A<1>", "any"), asked("type A = 1;", "A<1>", "any"))
}

// P12.1: too few and too many types in a List.
func TestUnlikeMany(t *testing.T) {
	for _, head := range []string{"interface D<T, U> {}", "class D<T, U> {}", "type D<T, U> = {t: T; u: U};"} {
		for _, list := range []string{"", "<1>", "<1, 2, 3>"} {
			refuses(t, offence{"TypeName", head + " let x: @D" + list + " = 1 as any;"})
			hasTypes(t, asked(head, "D"+list, "any"))
		}
		takes(t, head+" let x: D<1, 2> = 1 as any;")
	}
	// What stands in the List is looked at all the same.
	refuses(t,
		offence{"TypeName", "type A<T> = 1; type B = @A<1, {x: Nope}> | 2;"},
		offence{"TypeName", "type A<T> = 1; let x: A<@Nope> = 1;"},
	)
}

// P12.1: what the names of types stand for.
func TestNamed(t *testing.T) {
	hasTypes(t,
		asked("interface I {}", "I", "I#"), asked("interface I<T, U> {}", "I<1, 2[]>", "I#<1, 2[]>"),
		asked("class C {}", "C", "C#"), asked("class C<T> {}", "C<C<1>>", "C#<C#<1>>"),
		asked("enum E { A }", "E", "E@"), asked("enum E { A }", "E.A", "E@.A"), asked("const enum E { A, B }", "E.B | E.A", "E@.A | E@.B"), asked("enum E { A }", "E.A | E", "E@"),
		asked("type A = 1 | 2;", "A", "1 | 2"), asked("type A<T> = T[];", "A<A<1>>", "1[][]"), asked("type A<T, U> = {a: T; b: U};", "A<1, 2>", "{a: 1; b: 2}"),
		asked("type A<T, U> = T;", "A<1, 2>", "1"), asked("type A<T> = B<T> | 1; type B<U> = U[];", "A<2>", "1 | 2[]"),
		typed{"Name", "function f<T>(x: T[]) { print(@x); }", "T'[]"},
		typed{"Name", "class C<T> { m(x: T) { print(@x); } }", "T'"},
		typed{"Name", "class C<T> { m<U>(x: T, y: U) { const l = [x, y]; print(@l); } }", "(T' | U')[]"},
		typed{"Name", "const f = <T>(x: T) => { print(@x); };", "T'"},
	)
	refuses(t,
		offence{"TypeName", "let x: @Nope = 1;"},
		offence{"TypeName", "let x: {a: (y: @Nope[]) => 1} = 1 as any;"},
		offence{"TypeName", "let I = 1; let x: @I = 1;"},
		offence{"TypeName", "function I() {} let x: @I = 1;"},
		offence{"TypeName", "namespace I {} let x: @I = 1;"},
		offence{"TypeName", "print(1 as @Nope);"},
		offence{"TypeName", "print<@Nope>(1);"},
		offence{"TypeName", "class C { x: @Nope; }"},
		offence{"TypeName", "class C { constructor(x: @Nope) {} }"},
		offence{"TypeName", "class C<T> {} class D extends C<@Nope> {}"},
		offence{"TypeName", "class C<T> {} new C<@Nope>();"},
		offence{"TypeName", "for (let x: @Nope = 1; ; ) {}"},
		offence{"TypeName", "type A = (x?: @Nope) => 1;"},
		offence{"TypeName", "interface I { x?: @Nope }"},
		offence{"TypeName", "interface I extends @Nope {}"},
	)
	hasTypes(t, asked("", "Nope", "any"), asked("", "Nope[]", "any[]"))
}

// P12.1: names of types in scopes one within the other.
func TestTypeScopes(t *testing.T) {
	hasTypes(t,
		// The innermost one counts, be it behind.
		typed{"Name", "type A = 1; { let x: A = 2; print(@x); type A = 2; }", "2"},
		typed{"Name", "type A = 1; { type A = 2; } let x: A = 1; print(@x);", "1"},
		typed{"Name", "type A = 1; function f(x: A) { type A = 2; print(@x); }", "1"},
		typed{"Name", "type A = 1; function f() { type A = 2; const x: A = 2; print(@x); }", "2"},
		typed{"Name", "type A = 1; function f<A>(x: A) { print(@x); }", "A'"},
		typed{"Name", "type A = 1; function f<A>(x: A) { type A = 2; const y: A = 2; print(@y); }", "2"},
		typed{"Name", "type A = 1; const f = <A>(x: A) => print(@x);", "A'"},
		typed{"Name", "type A = 1; class C<A> { m(x: A) { print(@x); } }", "A'"},
		typed{"Name", "class C<A> { m<A>(x: A) { const f = (y: A[]) => print(@y); } }", "A'[]"},
		typed{"Member", "interface A<A> { a: A } function f(x: A<1>) { print(@x.a); }", "1"},
		typed{"Name", "type A<A> = A[]; let x: A<1> = []; print(@x);", "1[]"},
		typed{"Name", "for (let i = 0; ; ) { type A = 1; let x: A = 1; print(@x); }", "1"},
		typed{"Name", "for (const i of [1]) { type A = 1; let x: A = 1; print(@x); }", "1"},
		typed{"Name", "try {} catch (e) { type A = 1; let x: A = 1; print(@x); }", "1"},
		typed{"Name", "while (true) { { type A = 1; { let x: A = 1; print(@x); } } }", "1"},
		typed{"Name", "if (true) { type A = 1; } else { type A = 2; let x: A = 2; print(@x); }", "2"},
		typed{"Name", "class C { constructor() { type A = 1; let x: A = 1; print(@x); } }", "1"},
		typed{"Name", "class C { m() { interface A {} let x: A = {}; print(@x); } }", "A#"},
		typed{"Name", "class C { f = () => { enum A { B } let x: A = A.B; print(@x); }; }", "A@"},
		// A name of a value of the same name is another thing.
		typed{"Name", "let A = 1; type A = 2; { let A: A = 2; print(@A); }", "2"},
	)
	refuses(t,
		offence{"TypeName", "{ type A = 1; } let x: @A = 1;"},
		offence{"TypeName", "function f<T>() {} let x: @T = 1;"},
		offence{"TypeName", "function f() { type A = 1; } let x: @A = 1;"},
		offence{"TypeName", "function f(x: @A) { type A = 1; }"},
		offence{"TypeName", "class C<T> {} let x: @T = 1;"},
		offence{"TypeName", "for (const i of [1 as @A]) { type A = 1; }"},
		offence{"TypeName", "namespace N { type A = 1; } let x: @A = 1;"},
		offence{"TypeName", "interface I<T> {} let x: @T = 1;"},
		offence{"TypeName", "type I<T> = 1; let x: @T = 1;"},
		offence{"TypeName", "class C { m<T>() {} n(x: @T) {} }"},
		offence{"TypeName", "const f = <T>(x: T) => 1; let x: @T = 1;"},
	)
}

// P12.1: two of one name in one scope.
func TestTwoOfOneName(t *testing.T) {
	refuses(t,
		offence{"Alias", "type A = 1; @type A = 1;"},
		offence{"Interface", "interface A {} @interface A {}"},
		offence{"Alias", "interface A {} @type A = 1;"},
		offence{"Interface", "type A = 1; @interface A {}"},
		offence{"Class", "type A = 1; @class A {}"},
		offence{"Enum", "interface A {} @enum A {}"},
		offence{"Interface", "class A {} @interface A {}"},
		offence{"Interface", "enum A {} @interface A {}"},
		offence{"Alias", "const enum A {} @type A = 1;"},
		offence{"Alias", "type A = 1; { type A = 2; @type A = 3; }"},
		offence{"Alias", "type A = 1; print(1); @type A = 2; type A = 3;"},
		offence{"Interface", "namespace N { export type A = 1; @interface A {} }"},
		offence{"Interface", "namespace N { type A = 1; export @interface A {} }"},
		offence{"Class", "namespace N { export interface A {} export @class A {} }"},
		offence{"TypeParam", "function f<T, @T>() {}"},
		offence{"TypeParam", "function f<T, U, @T>() {}"},
		offence{"TypeParam", "class C<T, @T> {}"},
		offence{"TypeParam", "interface C<T, @T> {}"},
		offence{"TypeParam", "type C<T, @T> = 1;"},
		offence{"TypeParam", "class C { m<T, @T>() {} }"},
		offence{"TypeParam", "print(<T, @T>() => 1);"},
	)
	takes(t,
		"type A = 1; { type A = 2; } { type A = 3; }",
		"type A = 1; let A = 1;", "interface A {} function A() {}", "interface A {} namespace A {}",
		"type A = 1; namespace N { type A = 2; }", "function f<T>() { type T = 1; }", "class T<T> {}",
		"class C<T> { m<T>() {} }", "type A = 1; function f<A>() {}",
	)
	// The first one counts, and how many parameters there are is still told by all.
	hasTypes(t,
		asked("type A = 1; type A = 2;", "A", "1"), asked("interface A { a: 1 } class A {}", "A", "A#"),
		typed{"Member", "interface A { a: 1 } class A { a = 2; } function f(x: A) { print(@x.a); }", "1"},
		typed{"Member", "interface A { a: 1 } class A { a: 2 = 2; } print(@new A().a);", "2"},
		typed{"Name", "namespace N { export type A = 1; export type A = 2; } let x: N.A = 1; print(@x);", "1"},
		typed{"Name", "namespace N { type A = 1; export type A = 2; } function f(x: N.A) { print(@x); }", "any"},
		typed{"Name", "function f<T, T>(x: T) { print(@x); } f<1, 2>(1);", "T'"},
	)
	refuses(t, offence{"TypeParam", "interface I<T, @T> { t: T } let x: I<1, 2> = {t: 1};"})
}

// P12.1: names with dots, in namespaces and enums.
func TestDots(t *testing.T) {
	hasTypes(t,
		asked("namespace N { export interface I {} }", "N.I", "I#"), asked("namespace N { export type A<T> = T[]; }", "N.A<1>", "1[]"),
		asked("namespace N { export class C<T> {} }", "N.C<1>", "C#<1>"), asked("namespace N { export enum E { A } }", "N.E", "E@"),
		asked("namespace N { export enum E { A } }", "N.E.A", "E@.A"),
		asked("namespace N { export namespace M { export namespace L { export type A = 1; } } }", "N.M.L.A", "1"),
		asked("namespace N { export namespace M { export enum E { A, B } } }", "N.M.E.B", "E@.B"),
		asked("namespace N { export type A = B; type B = 2; }", "N.A", "2"),
		// A Namespace and a type of one name do not stand in each other's way.
		asked("namespace N { export interface M { a: 1 } export namespace M { export type A = 2; } }", "N.M", "M#"),
		asked("namespace N { export interface M { a: 1 } export namespace M { export type A = 2; } }", "N.M.A", "2"),
		asked("interface N {} namespace N { export type A = 1; }", "N.A", "1"),
		// Within it, by its plain name and by its whole one; ahead of it, too.
		typed{"Name", "namespace N { let x: A = 1; print(@x); export type A = 1; }", "1"},
		typed{"Name", "namespace N { export type A = 1; namespace M { let x: A = 1; print(@x); } }", "1"},
		typed{"Name", "namespace N { export type A = 1; function f(x: N.A) { print(@x); } }", "1"},
		typed{"Name", "function f(x: N.A) { print(@x); } namespace N { export type A = 1; }", "1"},
		// The first name is looked up as a value.
		typed{"Name", "namespace N { export type A = 1; } { namespace N { export type A = 2; } let x: N.A = 2; print(@x); }", "2"},
		typed{"Name", "namespace N { export type A = 1; } function f<N>(x: N.A) { print(@x); }", "1"},
		typed{"Name", "namespace N { export type A = 1; } { type N = 2; let x: N.A = 1; print(@x); }", "1"},
		typed{"Name", "enum E { A } { enum E { A, B } let x: E.B = E.B; print(@x); }", "E@.B"},
	)
	refuses(t,
		offence{"TypeName", "let x: @N.A = 1;"},
		offence{"TypeName", "namespace N {} let x: @N.A = 1;"},
		offence{"TypeName", "namespace N { type A = 1; } let x: @N.A = 1;"},
		offence{"TypeName", "namespace N { export const A = 1; } let x: @N.A = 1;"},
		offence{"TypeName", "namespace N { export function A() {} } let x: @N.A = 1;"},
		offence{"TypeName", "namespace N { export namespace A {} } let x: @N.A = 1;"},
		offence{"TypeName", "namespace N { namespace M { export type A = 1; } } let x: @N.M.A = 1;"},
		offence{"TypeName", "namespace N { export type A = 1; } let x: @N.A.B = 1;"},
		offence{"TypeName", "namespace N { export class C {} } let x: @N.C.A = 1;"},
		offence{"TypeName", "let N = 1; let x: @N.A = 1;"},
		offence{"TypeName", "class N {} let x: @N.A = 1;"},
		offence{"TypeName", "interface N { A: 1 } let x: @N.A = 1;"},
		offence{"TypeName", "type N = {A: 1}; let x: @N.A = 1;"},
		offence{"TypeName", "namespace N { export type A = 1; } function f(N: any, x: @N.A) {}"},
		offence{"TypeName", "namespace N { export type A = 1; } function f(N: any): @N.A {}"},
		offence{"TypeName", "namespace N { export type A = 1; } for (const N of [1]) { let x: @N.A = 1; }"},
		offence{"TypeName", "namespace N { export type A = 1; } try {} catch (N) { let x: @N.A = 1; }"},
		offence{"TypeName", "namespace N { export type A = 1; } for (let N = 1; ; print(1 as @N.A)) {}"},
		offence{"TypeName", "namespace N { export type A = 1; } class C { constructor(N: any, x: @N.A) {} }"},
		offence{"TypeName", "namespace N { export type A = 1; } class C { m(N: any, x: @N.A) {} }"},
		offence{"TypeName", "namespace N { export type A = 1; } print((N: any, x: @N.A) => 1);"},
		offence{"TypeName", "namespace N { export type A = 1; } { function N() {} let x: @N.A = 1; }"},
		offence{"TypeName", "namespace N { export type A = 1; } { let x: @N.A = 1; class N {} }"},
		offence{"TypeName", "namespace N { export type A = 1; } { let x: @N.A = 1; const N = 1; }"},
		offence{"TypeName", "let x: @Nope.M.A = 1;"},
		offence{"TypeName", "class N {} let x: @N.M.A = 1;"},
		offence{"TypeName", "namespace N { ; { type A = 1; } if (1) {} } let x: @N.A = 1;"},
		offence{"TypeName", "namespace N { export const M = 1; } let x: @N.M.A = 1;"},
		offence{"TypeName", "enum E { A } let x: @E.B = E.A;"},
		offence{"TypeName", "enum E { A } let x: @E.A.B = E.A;"},
		offence{"TypeName", "enum E {} let x: @E.A = 1;"},
		offence{"TypeName", "print(1 as @print.x);"},
		offence{"TypeName", "let x: @number.x = 1;"},
	)
	takes(t,
		"namespace N { export type A = 1; } for (const N of [1 as N.A]) {}",
		"namespace N { export type A = 1; } class C { constructor(N: any) {} m(x: N.A) {} }",
		"namespace N { export type A = 1; } class C { m(N: any) {} constructor(x: N.A) {} }",
		"namespace N { export type A = number; } let f: (N: any, x: N.A) => N.A = (a, b) => 1;",
	)
	hasTypes(t, typed{"As", "namespace N { export type A = 1; } for (let i: N.A = 1; ; ) { print(@i as N.A); }", "1"})
}

// P12.1: Aliases that stand for themselves.
func TestRoundAliases(t *testing.T) {
	refuses(t,
		offence{"TypeName", "type L = @L;"},
		offence{"TypeName", "type L = @L[];"},
		offence{"TypeName", "type L = {next: @L | null};"},
		offence{"TypeName", "type L = (x: @L) => 1;"},
		offence{"TypeName", "type L<T> = {a: T; b: @L<T>};"},
		offence{"TypeName", "type A = @B; type B = A;"},
		offence{"TypeName", "type A = @B; type B = C | 1; type C = {a: A};"},
		offence{"TypeName", "type Z = A; type A = @B; type B = A;"},
		offence{"TypeName", "type A = I<@A>; interface I<T> { t: T }"},
		offence{"TypeName", "type A<T> = T; type B = A<@B>;"},
		offence{"TypeName", "type A = @B<1, 2>; type B = A;"},
		offence{"TypeName", "type A = 1 | @B; type B = {a: C}; type C = (x: 1) => B | A;"},
		offence{"TypeName", "namespace N { export type A = @N.B; export type B = A; }"},
		offence{"TypeName", "{ type A = { a: 1 | @A }; }"},
	)
	takes(t,
		"interface L { next: L | null }", "type A = I; interface I { a: A }", "type A = C; class C { a: A = this; }",
		"type A = 1; type B = A; type C = A | B; type D = {a: C; b: C; c: B};",
		"type A = 1; { type A = 2; type B = A; }", "type A<A> = A;", "type A = B[]; type B = {a: 1};",
	)
	hasTypes(t,
		asked("type L = L[];", "L", "any[]"), asked("type L = {a: L; b: 1};", "L", "{a: any; b: 1}"),
		asked("type A = B[]; type B = A | 1;", "A", "any[]"), asked("type A = B[]; type B = A | 1;", "B", "any"),
		asked("type Z = A[]; type A = {b: B}; type B = {a: A};", "Z", "{b: any}[]"),
	)
}

// P12.1: Params that may lack, and those behind them.
func TestOptional(t *testing.T) {
	hasTypes(t,
		asked("", "(a?: number) => void", "((number | undefined)?) => void"),
		asked("", "(a: 1, b?: number, c: string, d?: 2) => void", "(1, (number | undefined)?, string?, (2 | undefined)?) => void"),
		asked("", "(a?) => void", "(any?) => void"),
		asked("", "(a?: undefined) => void", "(undefined?) => void"),
		asked("", "{m(a: 1, b?: 2): 3}", "{m: (1, (2 | undefined)?) => 3}"),
		typed{"Name", "function f(a?: number, b: string) { print(@a); }", "number | undefined"},
		typed{"Name", "function f(a?: number, b: string) { print(@b); }", "string"},
		typed{"Name", "function f(a?: number, b: string) {} print(@f);", "((number | undefined)?, string?) => any"},
		typed{"Name", "const f = (a?: number, b: string) => a; print(@f);", "((number | undefined)?, string?) => number | undefined"},
		typed{"Name", "const f = (a: number, b?: string) => 1; print(@f);", "(number, (string | undefined)?) => number"},
		typed{"Member", "class C { m(a?: 1, b: 2) {} } print(@new C().m);", "((1 | undefined)?, 2?) => any"},
	)
}

// P12.1: two pieces of one Name in a TypeObject.
func TestTwoPieces(t *testing.T) {
	refuses(t,
		offence{"TypeProp", "let x: {a: 1; @a: 2} = {a: 1};"},
		offence{"TypeProp", "let x: {a: 1; b: 1; @a?: 1; a: 3} = {a: 1, b: 1};"},
		offence{"TypeProp", "type A = {a: 1; @a(x: 1): 2};"},
		offence{"TypeProp", "interface I { a: 1; @a: 2 }"},
		offence{"TypeProp", "print(1 as {a: {b: 1; @b: 1}} | 1);"},
	)
	hasTypes(t,
		asked("", "{a: 1; a: 2; b: 3; a?: 4}", "{a: 1; b: 3}"),
		asked("", "{a?: 1; a: 2}", "{a?: 1}"),
		typed{"Member", "interface I { a: 1; a: 2 } function f(x: I) { print(@x.a); }", "1"},
	)
	// What does not count is looked at all the same.
	refuses(t, offence{"TypeName", "type A = {x: @Nope; a: 1; a: 2};"}, offence{"TypeProp", "type A = {a: 1; @a: Nope};"})
}

// P12.1: the numbers in types are those of the declaring nodes.
func TestNumbers(t *testing.T) {
	for _, r := range []struct{ word, text, declaration, want string }{
		{"Name", "; interface I {} function f(x: I) { print(@x); }", "Interface", "I#%"},
		{"Name", "; class C {} function f(x: C) { print(@x); }", "Class", "C#%"},
		{"Name", "; class C {} print(@C);", "Class", "class C#%"},
		{"Name", "; enum E {} function f(x: E) { print(@x); }", "Enum", "E@%"},
		{"Member", "; enum E { A, B } print(@E.B);", "Enum", "E@%.B"},
		{"Name", "; enum E {} print(@E);", "Enum", "enum E#%"},
		{"Name", "; namespace N {} print(@N);", "Namespace", "namespace N#%"},
		{"Name", "; function f<T>(x: T) { print(@x); }", "TypeParam", "T'%"},
		{"This", "; class C { m() { print(@this); } }", "Class", "C#%"},
		{"New", "; class C {} print(@new C());", "Class", "C#%"},
	} {
		holdsNumber(t, r.word, r.text, r.declaration, r.want)
	}
}
