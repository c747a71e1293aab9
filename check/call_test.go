package check_test

import "testing"

// P12.1: what may be called, and what it answers.
func TestCalls(t *testing.T) {
	of(t, "Call",
		"f(1) :: string", "an(1, 2) :: any", "an() :: any", "(() => 1)() :: number", "l.push(1) :: number", "n(1) :: any", "o.k() :: any", "un() :: any", "print(1) :: undefined", "print() :: undefined", "input() :: null | string", "input(1) :: null | string", "n.x(1) :: any", "f() :: string", "f(s) :: string", "f(1, 2) :: string", "ne() :: any", "(b ? f : f)(1) :: string",
	)
	fine(t, "f(1)", "f(n)", "f(one)", "f(an)", "an(1)(2)", "l.push(1)", "(() => {})()", "((x: number, y?: string) => 1)(1)", "print()", "print(1, un, f)", "input()", "f(e)", "f(ne)", "((x?: number) => 1)(undefined)")
	wrong(t, "Name", "@n()", "@s(1)", "@o()", "@l()", "@un()", "@ne()", "@E()", "@K()", "@N()", "@v()", "@u()", "@nu()", "f(@s)", "f(@un)", "f(@ns)", "l.push(@s)")
	wrong(t, "Member", "@o.k()", "@s.length()", "(@on.k)(1)")
	wrong(t, "Call", "@f()", "@f(1, 2)", "@l.push()", "@l.push(1, 2)", "@(() => 1)(1)", "@input(1)", "@((x?: number) => 1)(1, 2)")
	wrong(t, "Call", "@f(s, s)")
	// A union of functions is none.
	refuses(t, offence{"Name", "function g(f: (() => 1) | (() => 2)) { @f(); }"}, offence{"Name", "function g(f: (() => 1) | null) { @f(); }"})
	// Each argument that has a Param is asked, however many there are.
	refuses(t, offence{"Call", "function g(a: number, b: string, c?: 1) {} @g(\"\");"}, offence{"Str", "function g(a: number, b: string, c?: 1) {} g(@\"\", \"\");"}, offence{"Num", "function g(a: number, b: string, c?: 1) {} g(1, @1, 2);"}, offence{"Num", "function g(a: number, b: string, c?: 1) {} g(1, \"\", @2);"})
}

// P12.1: marked Params.
func TestMarked(t *testing.T) {
	takes(t,
		"function f(a: 1, b?: 2, c: 3) {} f(1); f(1, 2); f(1, undefined); f(1, 2, 3);", "const f = (a?: number) => a; f(); f(1); f(undefined);", "function g(f: (a: 1, b?: 2) => 3) { f(1); f(1, 2); f(1, undefined); }",
		"class C { m(a?: 1) {} constructor(x?: 1, y: 2) {} } new C(); new C(1); new C(undefined, 2); new C().m(); new C().m(1);",
	)
	refuses(t,
		offence{"Call", "function f(a: 1, b?: 2, c: 3) {} @f();"}, offence{"Call", "function f(a: 1, b?: 2, c: 3) {} @f(1, 2, 3, 4);"},
		// One that is unmarked behind a marked one may lack, but is not undefined.
		offence{"Undefined", "function f(a: 1, b?: 2, c: 3) {} f(1, 2, @undefined);"}, offence{"Null", "function f(a?: 1) {} f(@null);"},
		offence{"New", "class C { constructor(x: 1, y?: 2) {} } @new C();"}, offence{"New", "class C { constructor(x?: 1) {} } @new C(1, 2);"},
	)
}

// P12.1: types in the List of a Call and a New.
func TestLists(t *testing.T) {
	const head = "function id<T>(x: T): T { return x; } function two<T, U>(x: T, y: U): {t: T; u: U} { return {t: x, u: y}; } class P<T> { constructor(public v: T) {} m<U>(x: U): {t: T; u: U} { return {t: this.v, u: x}; } } class Q<T, U> { } const arrow = <T>(x: T) => x; let p = new P(1); "
	hasTypes(t,
		typed{"Call", head + "print(@id<number>(1));", "number"}, typed{"Call", head + "print(@id<1>(1));", "1"}, typed{"Call", head + "print(@id<any>(1));", "any"},
		typed{"Call", head + "print(@two<1, 2 | null>(1, 2));", "{t: 1; u: 2 | null}"}, typed{"New", head + "print(@new P<number | null>(1));", "P#<null | number>"}, typed{"New", head + "print(@new Q<1, 2>());", "Q#<1, 2>"},
		typed{"Call", head + "print(@p.m<1>(1));", "{t: number; u: 1}"}, typed{"Call", head + "print(@new P<1>(1).m<2>(2));", "{t: 1; u: 2}"},
		// Unlike many: those that are there count.
		typed{"Call", head + "print(@two<1>(1, 2));", "{t: 1; u: any}"}, typed{"Call", head + "print(@two<1, 2, 3>(1, 2));", "{t: 1; u: 2}"}, typed{"New", head + "print(@new Q<1>());", "Q#<1, any>"}, typed{"New", head + "print(@new P<1, 2>(1));", "P#<1>"},
		typed{"Call", head + "print(@arrow<number>(1));", "any"},
		// Of print, input and any they are looked at, and mean nothing.
		typed{"Call", head + "print(@print<1, 2>(1));", "undefined"}, typed{"Call", head + "print(@input<1>());", "null | string"}, typed{"Call", head + "print(@(1 as any)<1>(2));", "any"},
	)
	takes(t, head+"id<number>(1); id<number | string>(1); two<1, any>(1, 2); new P<1>(1); new Q<1, 2>(); p.m<string>(''); print<1>(1); input<1>(); (1 as any)<1>(1);")
	refuses(t,
		offence{"Num", head + "id<string>(@1);"}, offence{"Num", head + "two<1, 2>(1, @3);"}, offence{"Num", head + "new P<string>(@1);"}, offence{"Num", head + "p.m<string>(@1);"},
		offence{"Call", head + "@id<1, 2>(1);"}, offence{"Call", head + "@two<1>(1, 2);"}, offence{"New", head + "@new P<1, 2>(1);"}, offence{"New", head + "@new Q<1>();"}, offence{"Call", head + "@p.m<1, 2>(1);"},
		offence{"Call", head + "function g(x: number) {} @g<1>(1);"}, offence{"Call", head + "@arrow<number>(1);"}, offence{"Call", head + "const f = id; @f<number>(1);"}, offence{"New", "class C {} @new C<1>();"},
		offence{"Call", "namespace N { export function f<T>(x: T): T { return x; } } @N.f<1>(1);"}, offence{"Call", "interface I { m(x: 1): 2 } function g(i: I) { @i.m<1>(1); }"},
		offence{"TypeName", head + "print<@Nope>(1);"}, offence{"TypeName", head + "(1 as any)<@Nope>(1);"}, offence{"TypeName", head + "id<@Nope>(1);"}, offence{"TypeName", head + "input<@Nope>();"}, offence{"Name", head + "let x = 1; @x<Nope>(1);"},
	)
	// A Name of a Func counts, nothing about it.
	hasTypes(t,
		typed{"Call", head + "print(@(id as any)(1));", "any"}, typed{"Call", head + "const f = id; print(@f(1));", "any"}, typed{"Call", head + "print(@id!(1));", "any"}, typed{"Call", head + "print(@(true ? id : id)(1));", "any"},
		typed{"Call", "namespace N { export function f<T>(x: T): T { return x; } } print(@N.f(1));", "any"}, typed{"Call", "namespace N { export function f<T>(x: T): T { return x; } print(@f(1)); }", "number"},
	)
}

// P12.1: Methods with TypeParams, of a Class and of its Base.
func TestMethodCalls(t *testing.T) {
	const head = "class A<T> { constructor(public v: T) {} map<U>(f: (x: T) => U): U[] { return []; } both<U, V>(u: U, v?: V): {t: T; u: U; v: V} { return 1 as any; } f = <U>(x: U) => x; } class B<W> extends A<W[]> { own<U>(x: U): W | U { return x; } } class C extends B<string> { } interface I extends C {} function g(a: A<number>, b: B<1>, c: C, i: I, u: A<1> | A<2>) { print("
	hasTypes(t,
		typed{"Call", head + "@a.map((x) => \"\")); }", "string[]"}, typed{"Call", head + "@a.map((x: number) => x)); }", "number[]"}, typed{"Call", head + "@a.both(1)); }", "{t: number; u: number; v: unknown}"}, typed{"Call", head + "@a.both(1, \"\")); }", "{t: number; u: number; v: string}"},
		typed{"Call", head + "@b.map((x) => 1)); }", "number[]"}, typed{"Call", head + "@b.both(null)); }", "{t: 1[]; u: null; v: unknown}"}, typed{"Call", head + "@b.own(null)); }", "1 | null"}, typed{"Call", head + "@c.own(1)); }", "number | string"}, typed{"Call", head + "@c.both<1, 2>(1)); }", "{t: string[]; u: 1; v: 2}"},
		// Not of an Interface, of a union, of a Field: there it is the piece's own type.
		typed{"Call", head + "@i.both(1)); }", "{t: string[]; u: U'; v: V'}"}, typed{"Call", head + "@a.f(1)); }", "any"},
		typed{"Call", "class A { m<T>(x: T): T { return x; } n(y: string) { print(@this.m(y)); } }", "string"}, typed{"Call", "class A<T> { m<U>(x: U, y: T): U { return x; } n(y: T) { print(@this.m(y, y)); } }", "T'"},
		typed{"Call", "class A { m<T>(x: T): T { return x; } } class D extends A { m = 1 as any; } print(@new D().m(1));", "any"},
	)
	refuses(t,
		offence{"Num", head + "i.both(@1)); }"}, offence{"Member", head + "(@u.map)((x) => 1)); }"}, offence{"Num", "class A { m<T>(x: T): T { return x; } } class B extends A { n() { super.m(@1); } }"},
		offence{"Str", "class A<T> { put(x: T) {} } function f(a: A<number>) { a.put(@\"\"); }"},
	)
	takes(t, "class A { m<T>(x: T): T { return x; } } let n: number = new A().m(1);", "class A<T> { put(x: T) {} } class B extends A<string> {} new B().put(\"\");")
}

// P12.1: New, with a Ctor, without one, by a Base's.
func TestNew(t *testing.T) {
	const head = "class N0 {} class N1 { constructor(x: number, y?: string) {} } class N2 extends N1 {} class G<T> { constructor(x: T, y: T[]) {} } class H<U> extends G<U | null> {} class J<U, V> extends H<V> { } class K extends J<1, 2> {} class L extends K { constructor() { super(1 as any, []); } } "
	hasTypes(t,
		typed{"New", head + "print(@new N0());", "N0#"}, typed{"New", head + "print(@new N2(1));", "N2#"}, typed{"New", head + "print(@new G(1, []));", "G#<number>"}, typed{"New", head + "print(@new H(1, []));", "H#<number>"}, typed{"New", head + "print(@new J(\"\", []));", "J#<unknown, string>"}, typed{"New", head + "print(@new J<1, 2>(2, []));", "J#<1, 2>"},
		typed{"New", head + "print(@new N0(1));", "N0#"}, typed{"New", head + "print(@new N1());", "N1#"}, typed{"New", "let x: any = 1; print(@new x(1, 2));", "any"}, typed{"New", "let x = 1; print(@new x());", "any"},
		typed{"New", "namespace N { export class C<T> { constructor(x: T) {} } export namespace M { export class D {} } } print(@new N.C(1));", "C#<number>"}, typed{"New", "namespace N { export class C<T> { constructor(x: T) {} } export namespace M { export class D {} } } print(@new N.M.D());", "D#"},
		typed{"New", "class C {} const D = C; print(@new D());", "C#"}, typed{"New", "function f() { print(@new C(1)); } class C<T> { constructor(x: T) {} }", "C#<number>"},
		typed{"New", "class C { m() { print(@new C()); } }", "C#"},
	)
	takes(t, head+"new N0(); new N1(1); new N1(1, \"\"); new N2(1); new N2(1, undefined); new G(1, [2]); new H(1, [null]); new H<number>(null, [1]); new K(2, [null]); new L();", "let x: any = 1; new x(); new x.y.z(1);")
	refuses(t,
		offence{"New", head + "@new N0(1);"}, offence{"New", head + "@new N1();"}, offence{"New", head + "@new N2();"}, offence{"New", head + "@new N2(1, \"\", 2);"}, offence{"Str", head + "new N2(@\"\");"}, offence{"Array", head + "new G(1, @[\"\"]);"}, offence{"Num", head + "new K(@1, []);"}, offence{"New", head + "@new L(1);"},
		offence{"Name", "let x = 1; new @x();"}, offence{"Name", "function f() {} new @f();"}, offence{"Name", "enum E {} new @E();"}, offence{"Name", "namespace N {} new @N();"}, offence{"Name", "class C {} function f(c: C) { new @c(); }"}, offence{"Name", "new @print();"},
		offence{"Member", "namespace N { export const c = 1; } new @N.c();"}, offence{"Member", "namespace N { class C {} } new @N.C();"}, offence{"Member", "let x = {}; new @x.y();"},
	)
	// What stands in the List and the arguments is looked at, whatever is made.
	refuses(t, offence{"Name", "let x = 1; new @x(1 + {});"}, offence{"TypeName", "let x: any = 1; new x<@Nope>();"}, offence{"Binary", "let x: any = 1; new x(@1 + {});"})
}

// P12.1: Super.
func TestSuper(t *testing.T) {
	takes(t,
		"class A { constructor(x: number, y?: string) {} } class B extends A { constructor() { super(1); } } class C extends B { constructor() { super(); } }", "class A<T> { constructor(x: T) {} } class B extends A<string> { constructor() { super(\"\"); } }",
		"class A<T> { constructor(x: T) {} } class B<U> extends A<U[]> { constructor(u: U) { super([u]); } }", "class A {} class B extends A { constructor() { super(); } }", "class A { constructor(x: 1) {} } class M extends A {} class B extends M { constructor() { super(1); } }",
		"class A<T> { constructor(x: T) {} } class M<V> extends A<V[]> {} class B extends M<number> { constructor() { super([1]); } }",
	)
	refuses(t,
		offence{"Super", "class A { constructor(x: number) {} } class B extends A { constructor() { @super(); } }"}, offence{"Super", "class A {} class B extends A { constructor() { @super(1); } }"},
		offence{"Str", "class A { constructor(x: number) {} } class B extends A { constructor() { super(@\"\"); } }"}, offence{"Num", "class A<T> { constructor(x: T) {} } class B extends A<string> { constructor() { super(@1); } }"},
		offence{"Name", "class A<T> { constructor(x: T) {} } class B<U> extends A<U[]> { constructor(u: U) { super(@u); } }"}, offence{"Array", "class A<T> { constructor(x: T) {} } class M<V> extends A<V[]> {} class B extends M<number> { constructor() { super(@[\"\"]); } }"},
	)
	hasTypes(t, typed{"Super", "class A {} class B extends A { constructor() { @super(); } }", "undefined"}, typed{"Super", "class A {} class B extends A { constructor() { @super(1); } }", "undefined"})
}

// P12.1: print and input, also where they are declared anew.
func TestSurroundings(t *testing.T) {
	takes(t,
		"print(); print(1, \"\", print, input); let s: string | null = input(); let u: undefined = print(1);", "let f: () => undefined = print; f(); let g: () => string | null = input; g();",
		"function print(x: number): string { return \"\"; } let s: string = print(1);", "{ let input = (x: number) => x; input(1); }", "function f(print: number) { -print; }", "class print {} new print();", "const input = [1]; input[0];",
	)
	refuses(t,
		offence{"Call", "@input(1);"}, offence{"Call", "let p = print; @p(1);"}, offence{"Call", "function print(x: number) {} @print();"}, offence{"Str", "function print(x: number) {} print(@\"\");"}, offence{"Name", "let input = 1; @input();"}, offence{"Call", "{ const print = () => 1; @print(1); }"}, offence{"Call", "let s: string = @input();"}, offence{"Call", "let s: number = @print(1);"},
		offence{"Call", "@(print)!(1);"}, offence{"Name", "new @input();"},
	)
	hasTypes(t, typed{"Call", "function print<T>(x: T): T { return x; } @print(1);", "number"}, typed{"Name", "let p = print; @p;", "() => undefined"}, typed{"Call", "(@(input)!());", "null | string"})
}
