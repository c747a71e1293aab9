package check_test

import "testing"

// P12.1: assigning with each sign, to each kind of place.
func TestAssign(t *testing.T) {
	hasTypes(t,
		typed{"Assign", "let x = 1; @x = 2;", "2"}, typed{"Assign", "let x: number | string = 1; @x = \"a\";", `"a"`}, typed{"Assign", "let x: any = 1; @x = null;", "null"},
		typed{"Assign", "let x = 1; @x = \"a\";", `"a"`},
		typed{"Assign", "let x = 1; @x += 2;", "number"}, typed{"Assign", "let x = \"\"; @x += 2;", "string"}, typed{"Assign", "let x: any = 1; @x += 2;", "any"}, typed{"Assign", "let x = 1; @x -= 2;", "number"}, typed{"Assign", "let x: any = 1; @x *= 2;", "number"}, typed{"Assign", "let x: any = 1; @x %= 2;", "number"},
		typed{"Assign", "let x = {a: 1}; @x.a = 2;", "2"}, typed{"Assign", "let x = {a: 1}; @x.a += 2;", "number"}, typed{"Assign", "let x = [1]; @x[0] = 2;", "2"}, typed{"Assign", "let x = [\"\"]; @x[0] += 2;", "string"},
		typed{"Assign", "let x = true; @x += {};", "any"}, typed{"Assign", "let x = \"\"; @x -= 1;", "number"},
		// The place itself has the type that it has there.
		typed{"Name", "let x: number | string = 1; @x = \"a\";", "number"}, typed{"Member", "function f(x: {a?: 1}) { @x.a = 1; }", "1 | undefined"},
	)
	takes(t,
		"let x = 1; x = 2; x += 1; x -= 1; x *= 2; x %= 3;", "let s = \"\"; s += 1; s += null; s = \"a\";", "let x: number | string = 1; x = \"a\"; x += 1; x = 2; x += 2;",
		"function f(a: number | null, b?: string) { a = 1; a = null; b = undefined; b = \"\"; }", "for (let x of [1]) { x = 2; x += 1; }", "try {} catch (e) { e = 1; e = null; }",
		"let o = {a: 1, b: \"\"}; o.a = 2; o.b += o.a;", "function f(o: {a?: number}) { o.a = 1; o.a = undefined; }", "let l = [1]; l[0] = 2; l[1] -= 1; l.length = 0;",
		"let a: any = 1; a.b.c = 1; a[0] = 2; a.x += 1;", "class C { x: number = 0; m() { this.x = 1; this.x += 2; } }", "enum E { A } let e: E = E.A; let n = 1; n = e; n += e;",
		"let x = 1; let y = 2; x = y = 3;", "let f = (x: number) => 1; f = () => 2;", "let s = \"ab\"; s[0] = \"c\";",
		"function f() { x = null; x = 1; } let x = 1;", "let x: unknown = 1; x = print;", "let x: {a: number} | null = null; x = {a: 1};",
		"namespace N { export const c = 1; } N.c = 1;",
	)
	refuses(t,
		offence{"Str", "let x = 1; x = @\"a\";"}, offence{"Name", "let x = 1; let y: 1 | null = 1 as any; x = @y;"}, offence{"Null", "let x = \"\"; x = @null;"},
		offence{"Num", "let x: \"a\" | null = null; x = @1;"}, offence{"Num", "function f(a?: string) { a = @1; }"}, offence{"Str", "for (let x of [1]) { x = @\"\"; }"},
		offence{"Str", "let o = {a: 1}; o.a = @\"\";"}, offence{"Str", "let l = [1]; l[0] = @\"\";"}, offence{"Undefined", "let o = {a: 1}; o.a = @undefined;"}, offence{"Object", "let o = {a: 1}; o = @{};"},
		offence{"Num", "let l = []; l[0] = @1;"}, offence{"Num", "let x: never = 1 as never; x = @1;"}, offence{"Num", "namespace N { export const c = 1; } N.c = @2;"},
		offence{"Assign", "let x: 1 | 2 = 1; @x += 1;"}, offence{"Assign", "let x: 1 | 2 = 1; @x -= 1;"}, offence{"Assign", "let x = 1; @x += \"a\";"}, offence{"Assign", "let o: {a: 1} = {a: 1}; @o.a += 1;"}, offence{"Assign", "let l: 1[] = []; @l[0] *= 1;"},
		offence{"Assign", "let x = true; @x += 1;"}, offence{"Assign", "let x = 1; @x += {};"}, offence{"Assign", "let x: {} = {}; @x += null;"},
		offence{"Str", "let x = 1; x -= @\"\";"}, offence{"Name", "let x: any = 1; let y = \"\"; x *= @y;"}, offence{"Name", "function f(x: unknown) { @x -= 1; }"}, offence{"Member", "function f(x: {a: string | number}) { @x.a -= 1; }"},
		// The whole is asked besides: it stands ahead of its kids.
		offence{"Assign", "let x = \"\"; @x -= 1;"}, offence{"Assign", "let x: 1 = 1; @x %= \"\";"},
		offence{"Member", "let o = {a: 1}; @o.b = 1;"}, offence{"Index", "let o = {a: 1}; @o[0] = 1;"}, offence{"Str", "let l = [1]; l[@\"a\"] = 1;"}, offence{"Member", "let o = {a: 1}; @o.b += {};"},
		offence{"Binary", "let x = 1; x = @1 + {};"},
	)
	// The declared type is asked, not the one that is known.
	takes(t, "let x: number | string = 1; x = \"a\";", "let x: 1 | 2 = 1; if (x === 1) { x = 2; }")
	// The present one is reckoned with.
	refuses(t, offence{"Assign", "let x: number | string = \"\"; function f() { @x += 1; }"})
	takes(t, "let x: number | string = \"\"; x += 1;", "function f(x: number | string) { if (typeof x === \"number\") { x -= 1; x += 1; } }")
	refuses(t, offence{"Assign", "function f(x: any, y: never) { @y += x; }"})
}

// P12.1: readonly Members, as places.
func TestReadonly(t *testing.T) {
	takes(t,
		"class A { readonly x: number = 1; constructor() { this.x = 2; this.x += 1; } }", "class A { constructor(readonly x: number) { this.x = 2; } }", "class A { constructor(public readonly x: number) { (() => { this.x = 2; () => { this.x = 3; }; })(); } }",
		"class A { constructor(readonly x: number) { if (x) { while (x) { this.x = 1; break; } } } }",
		"class A { readonly x: number; constructor() { const f = () => () => (this.x = 1); } }", "class A { constructor(public x: number) {} } new A(1).x = 2;", "class A { x = 1; } function f(a: A) { a.x = 2; a.x += 1; }",
		"class A { readonly x: number[] = []; m() { this.x[0] = 1; this.x.push(2); } }", "class A { readonly x = {a: 1}; m() { this.x.a = 2; } }",
		"interface I { x: number } class A implements I { readonly x: number = 1; } function f(i: I) { i.x = 2; }",
		"class A { readonly x = 1; } class B extends A { x = 2; m() { this.x = 3; } }",
		"class A { readonly x = 1; } function f(a: any) { a.x = 2; }",
		"class A { constructor(readonly x: number) { class B { constructor(readonly x: number) { this.x = 1; } } } }",
	)
	refuses(t,
		offence{"Member", "class A { readonly x: number = 1; m() { @this.x = 2; } }"}, offence{"Member", "class A { readonly x: number = 1; m() { @this.x += 2; } }"},
		offence{"Member", "class A { readonly x: number = 1; y = (@this.x = 2); }"}, offence{"Member", "class A { readonly x: number = 1; m() { () => (@this.x = 2); } }"},
		offence{"Member", "class A { constructor(readonly x: number) { const me = this; @me.x = 2; } }"}, offence{"Member", "class A { constructor(readonly x: number, a: A) { @a.x = 2; } }"},
		offence{"Member", "class A { constructor(readonly x: number) { function f(a: A) { @a.x = 2; } } }"}, offence{"Member", "class A { constructor(readonly x: number) { class B { m(a: A) { @a.x = 2; } } } }"},
		offence{"Member", "class A { constructor(readonly x: number) {} } @new A(1).x = 2;"}, offence{"Member", "class A { constructor(public readonly x: number) {} } let a = new A(1); @a.x -= 2;"},
		// Of a Base: it is not the Ctor of that very Class.
		offence{"Member", "class A { readonly x: number = 1; } class B extends A { constructor() { super(); @this.x = 2; } }"}, offence{"Member", "class A { constructor(readonly x: number) {} } class B extends A { m() { @this.x = 2; } }"},
		offence{"Member", "class A { readonly x: number = 1; } interface I extends A {} function f(i: I) { @i.x = 2; }"},
		// Of any part of the kid's type.
		offence{"Member", "class A { readonly x: number = 1; } function f(a: A | {x: number}) { @a.x = 2; }"}, offence{"Member", "class A { readonly x: number = 1; } class B { x = 1; } function f(a: B | A) { @a.x = 2; }"},
		offence{"Member", "class A<T> { constructor(readonly x: T) {} } function f(a: A<number>) { @a.x = 2; }"},
	)
	// What is assigned must be taken all the same, and the type is its.
	hasTypes(t, typed{"Assign", "class A { readonly x: number = 1; } function f(a: A) { print(@a.x = 2); }", "2"})
	refuses(t, offence{"Str", "class A { constructor(readonly x: number) { this.x = @\"a\"; } }"})
}
