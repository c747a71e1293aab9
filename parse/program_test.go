package parse_test

import (
	"strings"
	"testing"

	"shuck/api"
	"shuck/parse"
)

// P4.1: each line of the grammar of statements, with what may be left out or repeated.
func TestStatements(t *testing.T) {
	program().all(t,
		"", "Program",
		" // nothing\n", "Program",
		";", "Program [Empty]",
		";;", "Program [Empty, Empty]",
		"{}", "Program [Block]",
		"{;{}}", "Program [Block [Empty, Block]]",
		"a; b;", "Program [Eval [a], Eval [b]]",
		"let x = 1;", "Program [Var x [-, Num 1]]",
		"let x: number = 1;", "Program [Var x [:number, Num 1]]",
		"const x = 1;", "Program [Var x 1 [-, Num 1]]",
		"const x: A | B = y => 1;", "Program [Var x 1 [TypeUnion [:A, :B], Arrow [L, L [Param y [-]], Num 1]]]",
		"if (a) {}", "Program [If [a, Block, -]]",
		"if (a) {} else {;}", "Program [If [a, Block, Block [Empty]]]",
		"if (a) {} else if (b) {} else if (c) {;}", "Program [If [a, Block, If [b, Block, If [c, Block [Empty], -]]]]",
		"while (a) { b; }", "Program [While [a, Block [Eval [b]]]]",
		"for (let x of y) {}", "Program [ForOf x [y, Block]]",
		"for (const x of y) { x; }", "Program [ForOf x 1 [y, Block [Eval [x]]]]",
		"for (const x of a = b) {}", "Program [ForOf x 1 [Assign = [a, b], Block]]",
		"for (;;) {}", "Program [For [-, -, -, Block]]",
		"for (let i = 0;;) {}", "Program [For [Var i [-, Num 0], -, -, Block]]",
		"for (let i: number = 0;;) {}", "Program [For [Var i [:number, Num 0], -, -, Block]]",
		"for (; a;) {}", "Program [For [-, a, -, Block]]",
		"for (;; a) {}", "Program [For [-, -, a, Block]]",
		"for (let i = 0; i < 9; i += 1) { break; }", "Program [For [Var i [-, Num 0], Binary < [i, Num 9], Assign += [i, Num 1], Block [Break]]]",
		"return;", "Program [Return [-]]",
		"return a;", "Program [Return [a]]",
		"break;", "Program [Break]",
		"continue;", "Program [Continue]",
		"throw a;", "Program [Throw [a]]",
		"try {} catch (e) {;}", "Program [Try [Block, Catch e [Block [Empty]], -]]",
		"try {} finally {;}", "Program [Try [Block, -, Block [Empty]]]",
		"try {;} catch (e) {} finally {}", "Program [Try [Block [Empty], Catch e [Block], Block]]",
		"a;", "Program [Eval [a]]",
		"a = b;", "Program [Eval [Assign = [a, b]]]",
		"({});", "Program [Eval [Object]]",
		"'use';", "Program [Eval [Str use]]",
	)
}

// P4.1: functions and classes.
func TestFunctionsAndClasses(t *testing.T) {
	program().all(t,
		"function f() {}", "Program [Func f [L, L, -, Block]]",
		"function f<T>(a) {}", "Program [Func f [L [TypeParam T], L [Param a [-]], -, Block]]",
		"function f<T, U>(a: T, b?, c?: U): T | U { return a; }",
		"Program [Func f [L [TypeParam T, TypeParam U], L [Param a [:T], Param b 1 [-], Param c 1 [:U]], TypeUnion [:T, :U], Block [Return [a]]]]",
		"function f(): {} {}", "Program [Func f [L, L, TypeObject, Block]]",
		"class C {}", "Program [Class C [L, -, L, L]]",
		"class C<T, U> {}", "Program [Class C [L [TypeParam T, TypeParam U], -, L, L]]",
		"class C extends D {}", "Program [Class C [L, Base D [L], L, L]]",
		"class C extends D<A, B> {}", "Program [Class C [L, Base D [L [:A, :B]], L, L]]",
		"class C implements I {}", "Program [Class C [L, -, L [:I], L]]",
		"class C implements I, N.J<A>, null {}", "Program [Class C [L, -, L [:I, TypeName N.J [L [:A]], :null], L]]",
		"class C<T> extends D<T> implements I {}", "Program [Class C [L [TypeParam T], Base D [L [:T]], L [:I], L]]",
		"class C { x; }", "Program [Class C [L, -, L, L [Field x [-, -]]]]",
		"class C { x: A; y = 1; z: A = 1; }", "Program [Class C [L, -, L, L [Field x [:A, -], Field y [-, Num 1], Field z [:A, Num 1]]]]",
		"class C { readonly x; readonly y: A = 1; }", "Program [Class C [L, -, L, L [Field x 4 [-, -], Field y 4 [:A, Num 1]]]]",
		"class C { m() {} }", "Program [Class C [L, -, L, L [Method m [L, L, -, Block]]]]",
		"class C { m<T>(a?: T): T { return this; } n() {} }",
		"Program [Class C [L, -, L, L [Method m [L [TypeParam T], L [Param a 1 [:T]], :T, Block [Return [This]]], Method n [L, L, -, Block]]]]",
		"class C { constructor() {} }", "Program [Class C [L, -, L, L [Ctor [L, Block]]]]",
		"class C { x; constructor(a, public b, readonly c: A, public readonly d?, public e?: B) { super(a); } y; }",
		"Program [Class C [L, -, L, L [Field x [-, -], Ctor [L [Param a [-], Param b 2 [-], Param c 4 [:A], Param d 7 [-], Param e 3 [:B]], Block [Eval [Super [L [a]]]]], Field y [-, -]]]]",
		"class C { constructor() { class D { constructor() {} } } }",
		"Program [Class C [L, -, L, L [Ctor [L, Block [Class D [L, -, L, L [Ctor [L, Block]]]]]]]]",
	)
}

// P4.1: what is for types, or makes something of its own at run time.
func TestDeclarations(t *testing.T) {
	program().all(t,
		"enum E {}", "Program [Enum E]",
		"enum E { A }", "Program [Enum E [EnumMember A [-]]]",
		"enum E { A, }", "Program [Enum E [EnumMember A [-]]]",
		"enum E { A = 1, B, C = A | B }", "Program [Enum E [EnumMember A [Num 1], EnumMember B [-], EnumMember C [Binary | [A, B]]]]",
		"const enum E { A = 'x', B, }", "Program [Enum E 1 [EnumMember A [Str x], EnumMember B [-]]]",
		"namespace N {}", "Program [Namespace N]",
		"namespace N { a; export const b = 1; }", "Program [Namespace N [Eval [a], Export [Var b 1 [-, Num 1]]]]",
		"namespace N { export function f() {} export class C {} export enum E {} }",
		"Program [Namespace N [Export [Func f [L, L, -, Block]], Export [Class C [L, -, L, L]], Export [Enum E]]]",
		"namespace N { export namespace M { export const a: A = 1; let b = 2; } export interface I {} export type T = A; }",
		"Program [Namespace N [Export [Namespace M [Export [Var a 1 [:A, Num 1]], Var b [-, Num 2]]], Export [Interface I [L, L, TypeObject]], Export [Alias T [L, :A]]]]",
		"namespace N { const enum E {} namespace M {} type T = A; }", "Program [Namespace N [Enum E 1, Namespace M, Alias T [L, :A]]]",
		"interface I {}", "Program [Interface I [L, L, TypeObject]]",
		"interface I<T> extends J<T>, N.K, true { a: T }",
		"Program [Interface I [L [TypeParam T], L [TypeName J [L [:T]], :N.K, :true], TypeObject [TypeProp a [:T]]]]",
		"type T = A;", "Program [Alias T [L, :A]]",
		"type T<A, B> = A | B;", "Program [Alias T [L [TypeParam A, TypeParam B], TypeUnion [:A, :B]]]",
		"{ enum E {} type T = A; interface I {} namespace N {} class C {} function f() {} }",
		"Program [Block [Enum E, Alias T [L, :A], Interface I [L, L, TypeObject], Namespace N, Class C [L, -, L, L], Func f [L, L, -, Block]]]",
	)
}

// P4.1: what is no statement.
func TestNoProgram(t *testing.T) {
	program().refused(t,
		"x", "1", "{", "}", "(", ")", "{;", "a b;", "a;;b", ",", "a, b;", "=> a;",
		"let", "let x", "let x;", "let x = ;", "let x = 1", "let = 1;", "let x: = 1;", "let x: A;", "let x += 1;", "let x = 1, y = 2;", "let 1 = 1;", "let let = 1;", "const x;", "const;", "let enum E {}",
		"function () {}", "function f {}", "function f()", "function f();", "function f() => 1", "function f(,) {}", "function f(a,) {}", "function f(a b) {}", "function f<>() {}", "function f<T,>() {}", "function f<A.B>() {}", "function f<T() {}", "function f(): {}", "function f(a = 1) {}", "function f(1) {}", "function f(a: ) {}", "function f(a?? ) {}",
		"if a {}", "if (a) b;", "if (a) ;", "if () {}", "if (a, b) {}", "if (a) {} else", "if (a) {} else b;", "if (a) {} else ;", "else {}", "if (a) {} else while (b) {}", "if (a) {} else {} else {}",
		"while (a) b;", "while () {}", "while a {}", "while (a)",
		"for () {}", "for (;) {}", "for (;;;) {}", "for (a;;) {}", "for (a of b) {}", "for (let i;;) {}", "for (const i = 0;;) {}", "for (let i = 0) {}", "for (let x: A of b) {}", "for (let x of) {}", "for (let x of a, b) {}", "for (let x in a) {}", "for (let x of a; b) {}", "for (;;) a;", "for (let 1 of a) {}", "for let x of a {}", "for (;;)", "for (let of of a) {}", "for (let i = 0, j = 1;;) {}",
		"return", "return a", "return a, b;", "break", "break a;", "continue", "continue 1;", "throw;", "throw a", "throw",
		"try {}", "try a; catch (e) {}", "try {} catch {}", "try {} catch () {}", "try {} catch (e: A) {}", "try {} catch (1) {}", "try {} finally", "try {} finally {} catch (e) {}", "try {} catch (e) {} catch (f) {}", "try {} catch (e) ;", "try catch (e) {}", "catch (e) {}", "finally {}", "try {};  finally {}",
		"export const a = 1;", "export function f() {}", "of;", "as;", "in;", "public;", "readonly a;", "constructor() {}", "extends;", "implements;",
		"{a: 1};", "{a, b}", "{}.a;", "{} + 1, 2;",
	)
}

// P4.1: what is no declaration.
func TestNoDeclaration(t *testing.T) {
	program().refused(t,
		"class {}", "class C", "class C {", "class C;", "class C<> {}", "class C extends {}", "class C extends A.B {}", "class C extends A, B {}", "class C extends A() {}", "class C extends A< {}", "class C extends null {}", "class C implements {}", "class C implements A, {}", "class C implements A[] {}", "class C implements A | B {}", "class C implements 1 {}", "class C implements A extends B {}", "class C extends A extends B {}", "class C implements {} {}",
		"class C { ; }", "class C { x }", "class C { x = ; }", "class C { x: ; }", "class C { x?: A; }", "class C { x += 1; }", "class C { 1; }", "class C { 'a'; }", "class C { x, y; }", "class C { public x; }", "class C { readonly readonly x; }", "class C { readonly; }", "class C { readonly m() {} }", "class C { m(); }", "class C { m() }", "class C { m }", "class C { m<T> {} }", "class C { m<>() {} }", "class C { m(): {} }", "class C { function m() {} }", "class C { let x = 1; }", "class C { new() {} }",
		"class C { constructor {} }", "class C { constructor(); }", "class C { constructor(): A {} }", "class C { constructor<T>() {} }", "class C { constructor; }", "class C { constructor() {} constructor() {} }", "class C { constructor() {} x; constructor(a) {} }", "class C { constructor(a,) {} }", "class C { constructor(readonly public a) {} }", "class C { constructor(public public a) {} }", "class C { constructor(public) {} }", "class C { constructor(public ?) {} }", "class C { readonly constructor() {} }",
		"function f(public x) {}", "function f(readonly x) {}", "class C { m(public x) {} }", "class C { m(readonly x) {} }", "(public x) => 1;", "<T>(readonly x) => 1;", "let f: (public x) => A = 1;", "type T = {m(readonly x): A};",
		"class C { constructor(a: (public x) => A) {} }", "class C { constructor(a: {m(public x): A}) {} }", "class C { constructor() { function f(public x) {} } }",
		"enum {}", "enum E", "enum E;", "enum E {,}", "enum E { A,, }", "enum E { A B }", "enum E { 1 }", "enum E { A: 1 }", "enum E { A = }", "enum E { A; B }", "enum E { 'A' }", "enum E<T> {}", "const enum", "const enum {}", "const const enum E {}", "enum const E {}",
		"namespace {}", "namespace N", "namespace N;", "namespace N.M {}", "namespace N { export }", "namespace N { export; }", "namespace N { export a; }", "namespace N { export let a = 1; }", "namespace N { export const enum E {} }", "namespace N { export {} }", "namespace N { export const a; }", "namespace N { export export const a = 1; }", "namespace N { export if (a) {} }", "namespace N { { export const a = 1; } }", "namespace N { export ; }", "namespace N { function f() { export const a = 1; } }", "namespace N { export return; }",
		"interface {}", "interface I", "interface I;", "interface I extends {}", "interface I extends A, {}", "interface I extends A | B {}", "interface I implements A {}", "interface I extends A[] {}", "interface I<> {}", "interface I A", "interface I = {}",
		"type = A;", "type T;", "type T = ;", "type T = A", "type T<> = A;", "type T: A;", "type T = A, B;", "type T<A = B;",
	)
}

// Each text that is taken, broken off behind any of its tokens but where another text ends, is none.
func TestBrokenOff(t *testing.T) {
	for _, text := range []string{
		"let x : A < B > = 1 ;", "function f < T > ( a ? : T ) : T { return a ; }", "class C < T > extends D < T > implements I , J { readonly x : T = 1 ; constructor ( public a ) { } m ( ) { } }",
		"const enum E { A = 1 , B , }", "namespace N { export const a = 1 ; ; }", "interface I < T > extends J { a ? : T ; m ( x ) : A , }", "type T < A > = | A [ ] | ( ( x ? : A ) => - 1 ) ;",
		"while ( a ) { }", "for ( const x of y ) { }", "for ( let i : A = 0 ; i ; i += 1 ) { }", "return a ;", "throw a ;", "break ;", "continue ;",
		"new A . B < C > ( 1 , `a${ b }c` ) [ 0 ] ! . d = { a , b : x => { } , } ;", "a ? super . m ( ) : < T > ( x : T ) => x as A ;",
	} {
		words := strings.Fields(text)
		if _, _, e := parse.Program([]byte(text)); e != api.OK {
			t.Errorf("%q: %v", text, e)
		}
		for i := 1; i < len(words); i++ {
			cut := strings.Join(words[:i], " ")
			_, at, e := parse.Program([]byte(cut))
			// A template that is broken off is no token.
			if e != api.ErrSyntax && e != api.ErrToken || at < 0 || at > len(cut) {
				t.Errorf("%q: %d, %v", cut, at, e)
			}
		}
	}
	program().refused(t, "if ( a ) { } else", "if ( a ) {", "if ( a )", "if (", "if", "try { } catch ( e )", "try { } catch ( e ) {", "try { } catch ( e ) { } finally", "try {", "try")
}
