package check_test

import "testing"

// P12.1: what a Class and an Interface have.
func TestMembers(t *testing.T) {
	const head = `class C<T> { a: T; b = 1; readonly c: string = ""; m(x: T): T[] { return [x]; } n() {} constructor(public d: T, readonly e?: number, public readonly f: boolean, g: number) {} } function use(c: C<1>) { print(`
	hasTypes(t,
		typed{"Member", head + "@c.a); }", "1"}, typed{"Member", head + "@c.b); }", "any"}, typed{"Member", head + "@c.c); }", "string"},
		typed{"Member", head + "@c.m); }", "(1) => 1[]"}, typed{"Member", head + "@c.n); }", "() => any"},
		typed{"Member", head + "@c.d); }", "1"}, typed{"Member", head + "@c.e); }", "number | undefined"}, typed{"Member", head + "@c.f); }", "false | true"},
	)
	refuses(t, offence{"Member", head + "@c.g); }"}, offence{"Member", head + "@c.h); }"}, offence{"Member", head + "@c.constructor1); }"})
	const other = `interface I<T> { a: T; b?: T[]; m(x: T, y?: string): I<T> } function use(c: I<1>) { print(`
	hasTypes(t,
		typed{"Member", other + "@c.a); }", "1"}, typed{"Member", other + "@c.b); }", "1[] | undefined"},
		typed{"Member", other + "@c.m); }", "(1, (string | undefined)?) => I#<1>"}, typed{"Member^", other + "@c.m(1).a); }", "1"},
	)
	refuses(t, offence{"Member", other + "@c.z); }"})
}

// P12.1: own members of one name twice.
func TestTwice(t *testing.T) {
	refuses(t,
		offence{"Field", "class C { a = 1; @a = 2; }"},
		offence{"Field", "class C { a: 1; b: 1; @a: 1; }"},
		offence{"Method", "class C { a = 1; @a() {} }"},
		offence{"Method", "class C { a() {} @a() {} }"},
		offence{"Field", "class C { a() {} @a = 1; }"},
		offence{"Param", "class C { a = 1; constructor(@public a: 1) {} }"},
		offence{"Param", "class C { a() {} constructor(@readonly a: 1) {} }"},
		offence{"Field", "class C { constructor(public a: 1) {} @a = 1; }"},
		offence{"Method", "class C { constructor(readonly a: 1) {} @a() {} }"},
		offence{"Method", "class C { a = 1; @a() {} a = 2; }"},
	)
	takes(t,
		"class C { a = 1; constructor(a: 1) {} }", "class C { a() {} constructor(a?: 1) {} }", "class C { a = 1; m() { class D { a = 2; } } }",
		"class C { constructor(public a: 1, b: 1) {} b = 1; }",
	)
	// The first one counts; the second one is looked at all the same.
	hasTypes(t,
		typed{"Member", "class C { a: 1; a: 2; } function f(c: C) { print(@c.a); }", "1"},
		typed{"Member", "class C { a(): 1 { return 1; } a: 2; } function f(c: C) { print(@c.a); }", "() => 1"},
		typed{"Member", "class C { constructor(public a: 1) {} a: 2; } function f(c: C) { print(@c.a); }", "1"},
		typed{"Binary", `class C { a: 1; a() { print(@1 + {}); } }`, "any"},
	)
	refuses(t, offence{"TypeName", "class C { x: @Nope; a = 1; a = 2; }"})
}

// P12.1: what is extended gives its members, with types in the place of its parameters.
func TestExtended(t *testing.T) {
	const classes = `class A<T, U> { a: T; b: U[]; m(): A<U, T> { return this as any; } constructor(public p: T) {} } class B<V> extends A<V, string> { b: string[]; c: V; constructor(v: V) { super(v); } } class C extends B<number> { } function use(c: C, b: B<1>) { print(`
	hasTypes(t,
		typed{"Member", classes + "@c.a); }", "number"}, typed{"Member", classes + "@c.b); }", "string[]"}, typed{"Member", classes + "@c.c); }", "number"}, typed{"Member", classes + "@c.p); }", "number"},
		typed{"Call", classes + "@c.m()); }", "A#<string, number>"}, typed{"Member", classes + "@b.a); }", "1"}, typed{"Member", classes + "@b.p); }", "1"}, typed{"Call", classes + "@b.m()); }", "A#<string, 1>"},
	)
	const interfaces = `interface A<T> { a: T; x: 1 } interface B<T> { b: T[]; x: 2 } interface C<T> extends A<T[]>, B<string> { c: T } class D { d = 1; } interface E extends C<1>, D { x: 1 } function use(c: C<1>, e: E) { print(`
	hasTypes(t,
		typed{"Member", interfaces + "@c.a); }", "1[]"}, typed{"Member", interfaces + "@c.b); }", "string[]"}, typed{"Member", interfaces + "@c.c); }", "1"},
		// Of two that give one name the first one counts.
		typed{"Member", interfaces + "@c.x); }", "1"},
		typed{"Member", interfaces + "@e.a); }", "1[]"}, typed{"Member", interfaces + "@e.d); }", "any"}, typed{"Member", interfaces + "@e.x); }", "1"},
	)
	takes(t,
		"interface A { a: 1 } interface B { a: 2 } interface C extends A, B {}",
		"interface A extends B {} interface B { b: 1 } function f(a: A) { print(a.b); }",
		"interface A extends C {} class C { c = 1; } class D { m() { class E extends D {} } }",
		"function f() { class A extends B { m() { return this.b; } } } class B { b = 1; }",
	)
	refuses(t, offence{"Member", "class A {} class B extends A {} function f(b: B) { print(@b.a); }"})
}

// P12.1: a Base that is no Class, or that has unlike many types.
func TestBase(t *testing.T) {
	refuses(t,
		offence{"Base", "let a = 1; class C @extends a {}"},
		offence{"Base", "function a() {} class C @extends a {}"},
		offence{"Base", "class A {} const a = A; class C @extends a {}"},
		offence{"Base", "enum a {} class C @extends a {}"},
		offence{"Base", "const enum a {} class C @extends a {}"},
		offence{"Base", "namespace a {} class C @extends a {}"},
		offence{"Base", "class C @extends print {}"},
		offence{"Base", "function f(a) { class C @extends a {} }"},
		offence{"Base", "class A {} class C @extends A<1> {}"},
		offence{"Base", "class A<T> {} class C @extends A {}"},
		offence{"Base", "class A<T> {} class C @extends A<1, 2> {}"},
		offence{"Base", "interface A {} let A = 1; class C @extends A {}"},
	)
	takes(t, "class A<T> {} class C<U> extends A<U[]> {}", "class A {} class C extends A {}", "interface A {} { class A {} class C extends A {} }")
	// It gives nothing.
	refuses(t,
		offence{"Member", "function f(c: C) { print(@c.a); } class A<T> { a = 1; } class C extends A {}"},
		offence{"New", "function f() { @new C(1); } class A<T> { constructor(x: number) {} } class C extends A {}"},
	)
	hasTypes(t,
		typed{"Member", "class A<T> { a = 1; } class C extends A { m() { print(@this.a); } }", "any"},
		typed{"SuperMember", "class A<T> { m() {} } class C extends A { n() { print(@super.m); } }", "any"},
		typed{"Super", "class A<T> { constructor(x: number) {} } class C extends A { constructor() { @super(); } }", "undefined"},
	)
	takes(t, "class A<T> { a: T; } class C extends A<1> { a: 1; }")
}

// P12.1: an Interface's TypeNames.
func TestInterfaceExtends(t *testing.T) {
	refuses(t,
		offence{"TypeName", "interface I extends @number {}"},
		offence{"TypeName", "interface I extends @any {}"},
		offence{"TypeName", "interface I<T> extends @T {}"},
		offence{"TypeName", "enum E {} interface I extends @E {}"},
		offence{"TypeName", "enum E { A } interface I extends @E.A {}"},
		offence{"TypeName", "type A = {a: 1}; interface I extends @A {}"},
		offence{"TypeName", "interface J {} type A = J; interface I extends @A {}"},
		offence{"TypeName", "interface J<T> {} interface I extends @J {}"},
		offence{"TypeName", "interface J {} interface I extends J, @Nope, J {}"},
		offence{"TypeName", "let J = {}; interface I extends @J {}"},
		offence{"TypeName", "interface I extends @null {}"},
	)
	takes(t, "interface J {} interface I extends J, J {}", "namespace N { export interface J { a: 1 } export class C {} } interface I extends N.J, N.C {} function f(i: I) { i.a; }")
	refuses(t, offence{"Member", "function f(i: I) { print(@i.a); } interface J<T> { a: T } interface I extends J {}"})
}

// P12.1: interfaces that extend one another round about.
func TestRoundInterfaces(t *testing.T) {
	refuses(t,
		offence{"TypeName", "interface A extends @A {}"},
		offence{"TypeName", "interface A<T> extends @A<T[]> {}"},
		offence{"TypeName", "interface A extends @B {} interface B extends A {}"},
		offence{"TypeName", "interface A extends @B {} interface B extends C {} interface C extends A {}"},
		offence{"TypeName", "interface Z extends A {} interface A extends @B {} interface B extends A {}"},
		offence{"TypeName", "interface J {} interface A extends J, @B {} interface B extends J, A {}"},
		offence{"TypeName", "namespace N { export interface A extends @N.B {} export interface B extends A {} }"},
		offence{"TypeName", "interface A extends @B {} interface B extends A<1> {}"},
	)
	// They give nothing; what leads there gives what it has.
	const ring = "interface Z extends A { z: 1 } interface A extends B { a: 1 } interface B extends A { b: 1 } function f(z: Z, a: A) { print("
	hasTypes(t, typed{"Member", ring + "@z.a); }", "1"}, typed{"Member", ring + "@z.b); }", "any"}, typed{"Member", ring + "@a.b); }", "any"}, typed{"Member", ring + "@a.a); }", "1"})
	takes(t, "interface A { b: B } interface B extends A { a: A }", "interface A extends B {} interface B { a: A[] } interface C extends A, B {}")
}

// P12.1: a member against the one in whose place it stands.
func TestInPlace(t *testing.T) {
	refuses(t,
		offence{"Field", "class A { a: number; } class B extends A { @a: string; }"},
		offence{"Field", "class A { a: 1; } class B extends A { @a: number; }"},
		offence{"Method", "class A { a: number; } class B extends A { @a() {} }"},
		offence{"Method", "class A { m(x: number) {} } class B extends A { @m(x: string) {} }"},
		offence{"Method", "class A { m() {} } class B extends A { @m(x: number) {} }"},
		offence{"Method", "class A { m(): number { return 1; } } class B extends A { @m(): string { return \"\"; } }"},
		offence{"Param", "class A { a: number; } class B extends A { constructor(@public a: string) { super(); } }"},
		offence{"Field", "class A { constructor(readonly a: number) {} } class B extends A { @a: string; }"},
		offence{"Field", "class A { a: number; } class B extends A {} class C extends B { @a: string; }"},
		offence{"Field", "class A<T> { a: T; } class B extends A<number> { @a: string; }"},
		offence{"Field", "class A<T> { a: T; } class B<T> extends A<T[]> { @a: T; }"},
		offence{"TypeProp", "interface A { a: number } interface B extends A { @a: string }"},
		offence{"TypeProp", "interface A { a: number } interface B extends A { @a?: number }"},
		offence{"TypeProp", "interface A { a: number } interface C { a: string } interface B extends A, C { @a: number }"},
		offence{"TypeProp", "interface A<T> { a: T } interface B extends A<1> { @a: number }"},
		offence{"TypeProp", "class A { a: 1; } interface B extends A { @a?: 1 }"},
		offence{"TypeProp", "interface A { b: 1 } interface C extends A {} interface B extends C { @b: 2 }"},
	)
	takes(t,
		"class A { a: number; m(x: 1): number { return 1; } } class B extends A { a: 1; m(x: number): 1 { return 1; } }",
		"class A { a; } class B extends A { a: string; }", "class A { a: string; } class B extends A { a; }",
		"class A { m(x: 1) {} } class B extends A { m() {} }", "class A { a: number; } class B extends A { constructor(public a: 1) { super(); } }",
		"class A<T> { a: T; } class B<T> extends A<T[]> { a: T[]; }",
		"interface A { a?: number } interface B extends A { a: number }", "interface A { a?: number } interface B extends A { a?: 1 }",
		"interface A { a: 1 } interface C { a: number } interface B extends A, C { a: 1 }",
		"class A { a: number; } class B<T> extends A { constructor(a: string) { super(); } }",
		// What does not count stands in no place.
		"interface A { a: number } interface B { a: string } interface C extends A, B {}",
	)
	// One that offends is there all the same.
	hasTypes(t, typed{"Member", "class A { a: number; } class B extends A { a: string; } function f(b: B) { print(@b.a); }", "string"})
	refuses(t, offence{"Field", "class A { a: number; } class B extends A { a: 1; @a: string; }"})
}

// P12.1: what a Class implements.
func TestImplements(t *testing.T) {
	refuses(t,
		offence{"TypeName", "interface I { a: number } class C implements @I {}"},
		offence{"TypeName", "interface I { a: number } class C implements @I { a: string; }"},
		offence{"TypeName", "interface I<T> { a: T } class C implements @I<string> { a: number; }"},
		offence{"TypeName", "interface I<T> { a: T } class C<T> implements @I<T[]> { a: T; }"},
		offence{"TypeName", "interface I { a: 1 } interface J { b: 1 } class C implements I, @J { a: 1; }"},
		offence{"TypeName", "class D { a: 1; } class C implements @D {}"},
		offence{"TypeName", "type A = {a: 1}; class C implements @A {}"},
		offence{"TypeName", "type A = 1; class C implements @A {}"},
		offence{"TypeName", "type A = {a: 1} | {}; class C implements @A { a: 1; }"},
		offence{"TypeName", "class C implements @any {}"},
		offence{"TypeName", "class C implements @number {}"},
		offence{"TypeName", "class C<T> implements @T {}"},
		offence{"TypeName", "enum E {} class C implements @E {}"},
		offence{"TypeName", "interface I<T> {} class C implements @I {}"},
		offence{"TypeName", "type A<T> = {}; class C implements @A<1, 2> {}"},
		offence{"TypeName", "class C implements @Nope {}"},
		offence{"TypeName", "type A = any[]; class C implements @A {}"},
		offence{"TypeName", "type A = () => 1; class C implements @A {}"},
	)
	takes(t,
		"interface I { a: number } class C implements I { a: 1; }", "interface I { a?: number } class C implements I {}",
		"interface I<T> { a: T; next: I<T> | null } class C<T> implements I<T> { a: T; next: C<T> | null; }",
		"class D { a: 1; } class C implements D { a: 1; b = 2; }", "class C implements C {}",
		"type A = {a: number}; class C implements A { a: 1; }", "interface I { a: 1 } type A = I; class C implements A { a: 1; }",
		"type A<T> = {a: T}; class C implements A<1> { a: 1; }", "class B { a: 1; } interface I { a: 1 } class C extends B implements I {}",
		"interface I { a: number } class C implements I { constructor(public a: number) {} }",
		"interface I { m(): void } class C implements I { m() { return 1; } }",
		"namespace N { export interface I { a: 1 } } class C implements N.I { a: 1; }",
	)
	// They give nothing to the Class.
	refuses(t, offence{"Member", "interface I { a?: number } class C implements I { m() { @this.a; } }"})
}

// P12.1: a Method with TypeParams has them in its type, as a member.
func TestMethodParameters(t *testing.T) {
	hasTypes(t,
		typed{"Member", "class C<T> { m<U>(x: U, y: T): U { return x; } } function f(c: C<1>) { print(@c.m); }", "(U', 1) => U'"},
		typed{"Name", "class C { m<U>(x: U): U { return x; } } const f = new C().m; print(@f);", "(U') => U'"},
		typed{"SuperMember", "class C { m<U>(x: U): U { return x; } } class D extends C { n() { print(@super.m); } }", "(U') => U'"},
	)
	refuses(t,
		offence{"TypeName", "interface I { m(x: number): number } class C implements @I { m<U>(x: U): U { return x; } }"},
		offence{"Method", "class A { m<U>(x: U): U { return x; } } class B extends A { @m<V>(x: V): V { return x; } }"},
	)
}
