package bind_test

import "testing"

// P7.1: what is for types has no uses, lays no names, and offends nobody.
func TestTypesArePassed(t *testing.T) {
	takes(t,
		"interface a {} interface a {} type a = b; type a = c; let a = 1;", "interface I<T, T> extends X, Y { a: b; a: b; m(c, c): d }", "type T<A, A> = A | B[] | {a: (a, a) => a};", "let a: b.c<d> = 1;", "let a: (a, a) => b = 1;", "let a: (a: (a) => b, a?: c) => d = 1;",
		"function f<f, f>(f: f): f {}", "class C<C, C> implements C, D<E> { C: C; m<T, T>(m: T): T {} constructor(public a: a, b?: (a, b) => b) {} }", "<T, T>(T: T) => 1;", "print<a, b>(1);", "new print<a, (b, b) => c>();", "class C extends print<a, b> {}",
		"print as a; print!; (print as (a, a) => b)!;", "namespace N { export interface a {} export type a = b; export const a = 1; interface a {} }", "enum E { A } let x: E.A = 1;", "for (let i: a = 1; ; ) {}", "class C { x: a; y: b = 1; readonly z: c; }",
	)
	binds(t,
		"@1let a: a = 1; #1a;", "interface a {} @1let a: {a: a} = 1; #1a;", "@2function f<T>(@1T: T) { #1T; }", "@1let x: (x: y) => x = 1; (#1x as x);", "@1let x = 1; print<x>(#1x); (<x>(@2y: x) => #2y + #1!x);",
		"type x = y; @1let x = 1; type z = x; #1x;", "@1class C<T> implements T { m(@2T: (T, U) => V) { #2T; } x: C; y = #1!C; }",
		"(@1a: (a: b, b: a) => b, @2b: {a: b}) => #1a + #2b;", "@1let a = 1; [#1a as {b: (a) => a}, #1a as (a: (a) => a) => a, #1a];",
	)
	refuses(t,
		// The names of types are none of values.
		offence{"Name", "interface a {} @a;"}, offence{"Name", "type a = b; @a;"}, offence{"Name", "function f<T>() { @T; }"}, offence{"Name", "class C<T> { m() { @T; } }"}, offence{"Name", "namespace N { export interface a {} @a; }"}, offence{"Name", "let x: (a: b) => c = @a;"}, offence{"Name", "<T>(x) => @T;"},
		offence{"Base", "interface I {} class C @extends I {}"}, offence{"Name", "class C { x: (a) => b = @a; }"}, offence{"Name", "function f(x: (a) => b): (c) => d { @a; }"}, offence{"Name", "function f(x): (c) => d { @c; }"},
		// What stands about types is looked at all the same.
		offence{"Name", "@a as T;"}, offence{"Name", "[print as T, @a];"}, offence{"Name", "print<T>(@a);"}, offence{"Param", "function f<T>(x: (y) => T, @x: T) {}"}, offence{"Var", "let x: (x) => y = 1; @let x = 1;"}, offence{"Name", "interface I {} @a;"}, offence{"Name", "type T = (a) => b; @b;"},
		offence{"Name", "let x: T = @a;"}, offence{"Name", "class C<T> implements I { x: T = @a; }"}, offence{"Name", "namespace N { export type T = A; export const x: T = @a; }"},
	)
}
