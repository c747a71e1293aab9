package erase_test

import "testing"

// P13.1: Namespaces: empty, without Exports, with Exports of each kind, in order.
func TestNamespace(t *testing.T) {
	gives(t,
		"namespace N {}", "const N = (() => { return {}; })();",
		"namespace N { let a = 1; print(a); ; }", "const N = (() => { let a = 1; print(a); ; return {}; })();",
		"namespace N { export const a = 1; }", "const N = (() => { const a = 1; return {a: a}; })();",
		"namespace N { export function f() { return f; } }", "const N = (() => { function f() { return f; } return {f: f}; })();",
		"namespace N { export class C extends print { x = 1; } }", "const N = (() => { class C extends print { x = 1; } return {C: C}; })();",
		"namespace N { export enum E { A, B = 'x' } }", "const N = (() => { const E = {A: 0, B: 'x'}; return {E: E}; })();",
		"namespace N { export namespace M {} }", "const N = (() => { const M = (() => { return {}; })(); return {M: M}; })();",
		"namespace N { export interface I {} export type T = 1; }", "const N = (() => { return {}; })();",
		"namespace N { interface I {} type T = 1; const enum E { A } }", "const N = (() => { return {}; })();",
		"namespace N { export const c = 1; export interface I { a: number } export function f() {} let h = c; export class C {} export type T = I; export enum E { A } print(h); export namespace M { export const c = 2; } export const a = 3; }",
		"const N = (() => { const c = 1; function f() {} let h = c; class C {} const E = {A: 0}; print(h); const M = (() => { const c = 2; return {c: c}; })(); const a = 3; return {c: c, f: f, C: C, E: E, M: M, a: a}; })();",
		// What an Export exports is erased as elsewhere.
		"namespace N { export const a: A = 1!; export function f<T>(a?: T): T { return a as T; } export class C<T> implements I { x; y: T = 1 as any; constructor(readonly z: T) {} } }",
		"const N = (() => { const a = 1; function f(a) { return a; } class C { y = 1; constructor(z) { this.z = z; } } return {a: a, f: f, C: C}; })();",
		// Interfaces may have the names of others.
		"namespace N { export interface a {} export const a = 1; type a = 1; export type a = 2; }", "const N = (() => { const a = 1; return {a: a}; })();",
		"namespace N { export const print = 1; export function input() {} }", "const N = (() => { const print = 1; function input() {} return {print: print, input: input}; })();",
	)
}

// P13.1: where Namespaces may stand, one within another, and uses of what they export from within and without.
func TestNamespacePlaces(t *testing.T) {
	gives(t,
		"{ namespace N {} { namespace N {} } }", "{ const N = (() => { return {}; })(); { const N = (() => { return {}; })(); } }",
		"function f() { namespace N { export const a = 1; } return N.a; } let g = () => { namespace N {} };", "function f() { const N = (() => { const a = 1; return {a: a}; })(); return N.a; } let g = () => { const N = (() => { return {}; })(); };",
		"class C { m() { namespace N {} } constructor(public a) { namespace N { print(a); } } x = () => { namespace N {} }; }", "class C { m() { const N = (() => { return {}; })(); } constructor(a) { this.a = a; const N = (() => { print(a); return {}; })(); } x = () => { const N = (() => { return {}; })(); }; }",
		"if (1) { namespace N {} } while (1) { namespace N {} break; } for (;;) { namespace N { while (1) { break; } } } for (const x of 1) { namespace N { x; } }", "if (1) { const N = (() => { return {}; })(); } while (1) { const N = (() => { return {}; })(); break; } for (;;) { const N = (() => { while (1) { break; } return {}; })(); } for (const x of 1) { const N = (() => { x; return {}; })(); }",
		"try { namespace N {} } catch (e) { namespace N { e; } } finally { namespace N {} }", "try { const N = (() => { return {}; })(); } catch (e) { const N = (() => { e; return {}; })(); } finally { const N = (() => { return {}; })(); }",
		"namespace A { export namespace B { export namespace C { export const d = 1; } C.d; } B.C.d; } A.B.C.d; A; new A.B(); A.B = 1;",
		"const A = (() => { const B = (() => { const C = (() => { const d = 1; return {d: d}; })(); C.d; return {C: C}; })(); B.C.d; return {B: B}; })(); A.B.C.d; A; new A.B(); A.B = 1;",
		"namespace A { namespace B { export const c = 1; } export const d = B.c; { namespace E {} } }",
		"const A = (() => { const B = (() => { const c = 1; return {c: c}; })(); const d = B.c; { const E = (() => { return {}; })(); } return {d: d}; })();",
		// From within, in functions and ahead of them; names from without, and names that shadow these.
		"let a = 1; namespace N { let b = a; export function f() { return [N, N.c, c, a, b]; } export const c = f; } N.f();",
		"let a = 1; const N = (() => { let b = a; function f() { return [N, N.c, c, a, b]; } const c = f; return {f: f, c: c}; })(); N.f();",
		"function f() { return N.a; } namespace N { export const a = f; }", "function f() { return N.a; } const N = (() => { const a = f; return {a: a}; })();",
		"let a = 1; namespace N { export const a = 2; print(a); } print(a);", "let a = 1; const N = (() => { const a = 2; print(a); return {a: a}; })(); print(a);",
		"namespace N { export const N = 1; N; }", "const N = (() => { const N = 1; N; return {N: N}; })();",
		"namespace N { const f = () => { return 1; }; function g() { return this_; } const this_ = 2; export class C { m() { return this; } x = this; } }", "const N = (() => { const f = () => { return 1; }; function g() { return this_; } const this_ = 2; class C { m() { return this; } x = this; } return {C: C}; })();",
		// Const Enums in them, and ones from without.
		"const enum E { A = 1, B } namespace N { const enum F { A = 3 } export const a = E.A; export const b = F.A; export enum G { A = 5 } G.A; { const enum E { A = 7 } E.A; } } print(E.B);",
		"const N = (() => { const a = 1; const b = 3; const G = {A: 5}; G.A; { 7; } return {a: a, b: b, G: G}; })(); print(2);",
	)
}
