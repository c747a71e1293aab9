package check_test

import "testing"

// ends and goesOn hold bodies of functions against whether their end is reached: then the written answer offends.
func ends(t *testing.T, bodies ...string) {
	t.Helper()
	for _, body := range bodies {
		takes(t, "function f(b: boolean, x: any): any[] { "+body+" }", "class C { m(b: boolean, x: any): any[] { "+body+" } }")
	}
}

func goesOn(t *testing.T, bodies ...string) {
	t.Helper()
	for _, body := range bodies {
		refuses(t, offence{"TypeArray", "function f(b: boolean, x: any): @any[] { " + body + " }"}, offence{"TypeArray", "class C { m(b: boolean, x: any): @any[] { " + body + " } }"})
	}
}

// P12.1: what is not reached behind what ends a way.
func TestEnds(t *testing.T) {
	ends(t,
		"return x;", "throw 1;", "return x; print(1);", "{ return x; }", "{ { throw 1; } }", "{ return x; } { }", "print(1); throw x; ;",
		"if (b) { return x; } else { return x; }", "if (b) { return x; } else { throw 1; }", "if (b) { throw 1; } return x;", "if (b) {} else { throw 1; } return x;", "if (b) { return x; } else if (x) { return x; } else { return x; }", "if (b) {} return x;",
		"while (true) {}", "while (true) { print(1); }", "while (true) { if (b) { return x; } }", "while (true) { continue; }", "while (true) { while (b) { break; } }", "while (true) { for (;;) { break; } for (const q of [1]) { break; } }", "while (true) { () => { while (b) { break; } }; }", "while ((true)) {}",
		"try { return x; } catch (e) { return x; }", "try { return x; } catch (e) { throw 1; }", "try { return x; } finally {}", "try { throw 1; } finally { print(1); }", "try {} finally { return x; }", "try {} catch (e) {} finally { throw 1; }", "try { return x; } catch (e) { return x; } finally {}", "try { print(1); } catch (e) { print(1); } finally { return x; }", "try { return x; } catch (e) {} finally { throw 1; }",
		"namespace N { throw 1; }", "namespace N { export namespace M { while (true) {} } }", "namespace N { throw 1; export const c = 1; }",
	)
	goesOn(t,
		"", ";", "print(1);", "{}", "if (b) { return x; }", "if (b) {} else { return x; }", "if (b) { return x; } else if (x) { return x; }", "if (b) { return x; } else {}", "if (true) { return x; }", "if (b) { return x; } else { if (b) { return x; } }",
		"while (b) { return x; }", "while (true) { break; }", "while (true) { if (b) { break; } return x; }", "while (true) { { break; } }", "while (true) { return x; break; }", "while (1) {}", "while (!false) {}", "while (true && true) {}", "for (;;) {}", "for (; true; ) {}", "for (; true; ) { return x; }", "for (const q of [1]) { return x; }", "while (true) { try { break; } finally {} }",
		"try { return x; } catch (e) {}", "try {} catch (e) { return x; }", "try { return x; } catch (e) { if (b) { return x; } }", "try {} finally {}", "try { } catch (e) { return x; } finally { }", "try { if (b) { throw 1; } } finally {}",
		"function g() { return x; }", "() => { throw 1; };", "class D { m() { throw 1; } }", "namespace N { if (b) { throw 1; } }", "function never(): never { throw 1; } never();", "while (b) { throw 1; }", "b && x; b || x;",
	)
}

// P12.1: which written answers need no end.
func TestEndOfBody(t *testing.T) {
	for _, answer := range []string{"void", "any", "unknown", "undefined", "number | undefined", "void | 1", "{} | undefined"} {
		takes(t, "function f(): "+answer+" {}", "class C { m(): "+answer+" { print(1); } }")
	}
	for _, answer := range []string{"number", "null", "never", "string", "boolean", "true", "false"} {
		refuses(t, offence{"TypeName", "function f(): @" + answer + " {}"}, offence{"TypeName", "class C { m(): @" + answer + " { print(1); } }"})
	}
	refuses(t,
		offence{"TypeUnion", "function f(): @number | null {}"}, offence{"TypeNum", "function f(): @1 {}"}, offence{"TypeStr", "function f(): @\"a\" {}"}, offence{"TypeObject", "function f(): @{} {}"}, offence{"TypeFunc", "function f(): @() => void {}"}, offence{"TypeName", "function f<T>(): @T {}"}, offence{"TypeName", "enum E {} function f(): @E {}"}, offence{"TypeName", "interface I {} function f(): @I {}"}, offence{"TypeName", "class C { m(): @C {} }"},
	)
	takes(t, "function f() {}", "const f = () => {};", "class C { constructor() {} m() {} }")
}

// P12.1: each statement that is not reached is checked all the same, as if it were reached without facts.
func TestUnreached(t *testing.T) {
	for _, end := range []string{"return;", "throw 1;", "{ return; }", "while (true) {}", "if (x) { return; } else { throw 1; }", "try { return; } finally {}"} {
		hasTypes(t,
			typed{"Name", "function f(x: number | null) { x = 1; " + end + " print(@x); }", "null | number"},
			typed{"Name", "function f(x: number | null) { if (x === null) { return; } " + end + " print(@x); }", "null | number"},
			typed{"Name", "function f(x: number | null) { " + end + " if (x === null) { print(@x); } }", "null"},
			typed{"Name", "function f(x: number | null) { " + end + " { x = 1; print(@x); } }", "number"},
			// Each of them without facts, not with those of the one ahead.
			typed{"Name", "function f(x: number | null) { " + end + " x = 1; print(@x); }", "null | number"},
			typed{"Name", "function f(x: number | null) { " + end + " let y: number | null = 1; print(@y); }", "null | number"},
			typed{"Name", "function f(x: number | null) { " + end + " let y = 1; print(@y); }", "number"},
			typed{"Name", "function f(x: number | null) { " + end + " { return; print(1); } print(@x); }", "null | number"},
			typed{"Name", "function f(x: number | null) { const y: number | null = 1; " + end + " () => print(@y); }", "null | number"},
			typed{"Name", "function f(x: number | null) { x = 1; { " + end + " } print(@x); }", "null | number"},
		)
		refuses(t,
			offence{"Str", "function f(x: number | null) { " + end + " x = @\"\"; }"}, offence{"TypeName", "function f(x: number | null) { " + end + " let y: @Nope = 1; }"}, offence{"Binary", "function f(x: number | null) { " + end + " print(@1 + {}); x = \"\"; }"}, offence{"TypeName", "function f(x: number | null) { " + end + " function g(): @number {} }"}, offence{"Name", "function f(x: number | null) { " + end + " for (const y of @x) {} }"}, offence{"EnumMember", "function f(x: number | null) { " + end + " enum E { A, @A } }"}, offence{"Str", "function f(x: number | null) { " + end + " class C { x: number = @\"\"; } }"},
		)
		// A Return is one, reached or not.
		refuses(t, offence{"Str", "function f(x: number | null): number | undefined { throw 1; " + end + " return @\"\"; }"})
	}
	for _, end := range []string{"break;", "continue;"} {
		hasTypes(t, typed{"Name", "function f(x: number | null) { while (x) { x = 1; " + end + " print(@x); } }", "null | number"}, typed{"Name", "function f(x: number | null) { for (const q of [1]) { if (x === null) { " + end + " } print(@x); } }", "number"})
	}
	hasTypes(t,
		// A way that ends is left out where ways join.
		typed{"Name", "function f(x: number | null) { if (x === null) { return; } else { } print(@x); }", "number"}, typed{"Name", "function f(x: number | null) { if (x === null) { x = 1; } else { throw 1; } print(@x); }", "number"}, typed{"Name", "function f(x: number | null, b: boolean) { if (b) { x = null; return; } else if (x === null) { throw 1; } print(@x); }", "number"},
		typed{"Name", "function f(x: number | null) { while (true) { if (x === null) { break; } print(@x); } }", "number"}, typed{"Name", "function f(x: number | null) { if (x === null) { while (true) {} } print(@x); }", "number"}, typed{"Name", "function f(x: number | null) { if (x === null) { while (true) { break; } } print(@x); }", "null | number"}, typed{"Name", "function f(x: number | null) { if (x === null) { try { return; } finally {} } print(@x); }", "number"}, typed{"Name", "function f(x: number | null) { if (x === null) { for (;;) {} } print(@x); }", "null | number"},
		typed{"Name", "let x: number | null = 1 as any; if (x === null) { throw 1; } print(@x);", "number"},
	)
	takes(t, "throw 1; let x = 1; print(x); function f(): number { return 1; }")
}

// P12.1: what Vars, Fields and Returns ask.
func TestAsked(t *testing.T) {
	takes(t,
		"let x: number = 1; const y: string | null = null; let z: any = {}; for (let i: number = 0; ; ) {}", "class C { a: number = 1; b = \"\"; c: string | null = null; d; e: number; }", "function f(): number { return 1; } function g(): void { return; } function h(): undefined { return undefined; }",
		"function f(): any { return; } function g() { return 1; } function h() { if (1) { return; } return 1; }", "class C { m(): this1 { return this; } } type this1 = C;", "class C { constructor() { return; } m() { return 1; } }", "function f(): number { const g = () => { return \"\"; }; return g().length; }", "function f(): void { return undefined; }", "function f<T>(x: T): T { return x; }", "namespace N { export const c: number = 1; export function f(): 1 { return 1; } }",
	)
	refuses(t,
		offence{"Str", "let x: number = @\"\";"}, offence{"Name", "function f(y: number | null) { const x: number = @y; }"}, offence{"Object", "let x: {a: 1} = @{a: 2};"}, offence{"Object", "let x: {a: number} = @{};"}, offence{"Num", "let x: never = @1;"}, offence{"Str", "for (let i: number = @\"\"; ; ) {}"}, offence{"Str", "namespace N { export const c: number = @\"\"; }"}, offence{"Arrow", "let f: (x: number) => string = @(x: number) => x;"}, offence{"Arrow", "let f: () => void = @(x: number) => {};"},
		offence{"Str", "class C { a: number = @\"\"; }"}, offence{"Null", "class C { readonly a: number = @null; }"}, offence{"This", "class C { a: number = @this; }"}, offence{"Binary", "class C { a = @1 + {}; }"},
		offence{"Str", "function f(): number { return @\"\"; }"}, offence{"Return", "function f(): number { @return; }"}, offence{"Num", "function f(): void { return @1; }"}, offence{"Num", "class C { m(): string { return @1; } }"}, offence{"Return", "class C { m(): string { @return; } }"}, offence{"Undefined", "function f(): null { return @undefined; }"}, offence{"Num", "function f(): string { if (1) { while (2) { try { return @1; } finally {} } } return \"\"; }"}, offence{"Num", "function f(): string { function g(): string { return @1; } return \"\"; }"}, offence{"Name", "function f<T>(x: T): T[] { return @x; }"},
		offence{"Num", "function f() { () => { function g(): string { return @1; } }; }"}, offence{"Num", "namespace N { export function f(): string { return @1; } }"}, offence{"Name", "function f<T, U>(x: T): U { return @x; }"},
	)
	// An Arrow's and a Ctor's Returns are asked nothing, nor those of a function without a written answer.
	takes(t, "function f(): number { () => { return \"\"; }; return 1; }", "class C { m(): number { class D { constructor() { return; } } return 1; } }", "function f(): number { function g() { return \"\"; } return 1; }")
}

// P12.1: the members of Enums.
func TestEnums(t *testing.T) {
	takes(t, "enum E {}", "enum E { A, B = 5, C, D = -1 << 2, F = \"x\" }", "const enum E { A = 1 + 2 * 3 }", "namespace N { export enum E { A } }")
	refuses(t,
		offence{"EnumMember", "enum E { A = \"x\", @B }"}, offence{"EnumMember", "enum E { A, @A }"}, offence{"EnumMember", "enum E { @A = 1 % 0 }"}, offence{"EnumMember", "enum E { @A = f() } function f() {}"}, offence{"EnumMember", "enum F { A } const enum E { A, B, @C = F.A, D = F }"}, offence{"EnumMember", "enum E { @A = true }"}, offence{"EnumMember", "enum E { A = 9007199254740991, @B }"}, offence{"EnumMember", "enum E { A } enum F { A, @B = `x` }"}, offence{"EnumMember", "namespace N { export enum E { A, @A } }"},
		offence{"EnumMember", "enum E { A, @A = 1 + {} }"},
	)
	hasTypes(t, typed{"Num", "enum E { A = @7 }", "7"}, typed{"Unary", "enum E { A = @-7 }", "-7"}, typed{"Binary", "enum E { A = @1 + 2 }", "number"}, typed{"Binary", "enum E { A = @1 + {} }", "any"}, typed{"Member", "enum E { A, A, B } print(@E.A);", "E@.A"}, typed{"Str", "enum E { A = @\"x\" }", `"x"`}, typed{"Num", "enum E { A = @7, A = 8, B = \"\", C }", "7"})
}
