package machine_test

import (
	"strconv"
	"testing"

	"shuck/api"
)

// P17.1: what a Namespace exports, in order, and what it does not.
func TestExports(t *testing.T) {
	gives(t,
		done("namespace N {} print(N, N.a, typeof N);", "{} undefined object"),
		done("namespace N { let a = 1; const b = 2; function f() {} class C {} enum E {} const enum F {} namespace M {} interface I {} type T = 1; print(a, b); } print(N);", "1 2\n{}"),
		done("namespace N { export const a: number = 1; } print(N, N.a);", "{a: 1} 1"),
		done("namespace N { export function f<T>(x?: T) { return [x, f === N.f]; } } print(N, N.f(1));", "{f: function} [1, true]"),
		done("namespace N { export class C { v = 1; m() { return this.v; } } } print(N, new N.C(), new N.C().m());", "{C: class} {v: 1} 1"),
		done("namespace N { export enum E { A, B } } print(N, N.E.B);", "{E: {A: 0, B: 1}} 1"),
		done("namespace N { export namespace M { export const a = 1; const b = 2; } } print(N, N.M.a, N.M.b);", "{M: {a: 1}} 1 undefined"),
		done("namespace N { export interface I {} export type T = 1; } print(N);", "{}"),
		done("namespace N { export const d = 1; export function c() {} export class b {} export interface I {} export enum a {} export type T = 1; export namespace e {} } print(N);", "{d: 1, c: function, b: class, a: {}, e: {}}"),
		done("namespace N { print(1); export const a = print(2) as any; print(3); const enum F { A = 4 } export const b = F.A; for (const x of [5]) { print(x); } } print(N);", "1\n2\n3\n5\n{a: undefined, b: 4}"),
		done("namespace N { export const print1 = print; export const length = 3; export const N1 = 4; } print(N, N.length); N.print1(N.N1);", "{print1: function, length: 3, N1: 4} 3\n4"),
		done("namespace A { export namespace B { export namespace C { export const x = 1; } export const y = C.x + 1; } export const z = B.C.x + B.y + 1; } print(A, A.B.C.x);", "{B: {C: {x: 1}, y: 2}, z: 4} 1"),
	)
}

// P17.1: a Namespace has a scope of its own, and stands in those about it.
func TestScopesOfNamespaces(t *testing.T) {
	gives(t,
		done("let a = 1; namespace N { let a = 2; export const b = a; a += 1; print(a); export function f() { return a; } } print(a, N, N.f());", "3\n1 {b: 2, f: function} 3"),
		done("let a = 1; namespace N { a += 1; export const b = a; { let a = 5; print(a); } } print(a, N);", "5\n2 {b: 2}"),
		done("namespace N { print(f()); function f() { return g() + 1; } export function g() { return 1; } } print(N.g());", "2\n1"),
		done("namespace N { let count = 0; export function next() { count += 1; return count; } } N.next(); N.next(); print(N.next(), N);", "3 {next: function}"),
		done("const l = []; for (const x of [1, 2]) { namespace N { export const a = x; export const f = () => [x, a]; } l.push(N); } print(l[0].f(), l[1].f(), l[0] === l[1]);", "[1, 1] [2, 2] false"),
		done("function f(p) { namespace N { export const a = p; export class C { v = [a, p]; } } return N; } const M = f(3); print(f(1) === f(1), f(2), new M.C());", "false {a: 2, C: class} {v: [3, 3]}"),
		done("class A { m(p) { namespace N { export const a = p; export class B { v = a; m() { return [this.v, p]; } } } return new N.B().m(); } } print(new A().m(4));", "[4, 4]"),
		done("namespace N { export const f = () => { namespace M { export const a = 1; } return M; }; } print(N.f(), N.f() === N.f());", "{a: 1} false"),
		done("namespace N { for (const x of [1, 2, 3]) { if (x === 2) { continue; } if (x === 3) { break; } print(x); } function f() { return 7; } while (true) { break; } print(f()); }", "1\n7"),
	)
}

// P17.1: a Namespace's variable has its object when all is done; ahead of that, and within, it has none.
func TestNamespacesInTime(t *testing.T) {
	gives(t,
		throws("f(); namespace N { export const a = 1; } function f() { return N.a; }", "ReferenceError: N", ""),
		throws("namespace N { export const a = 1; (() => N.a)(); print(a); }", "ReferenceError: N", ""),
		throws("namespace N { f(); export function f() { return N; } }", "ReferenceError: N", ""),
		throws("namespace N { g(); export const a = 1; function g() { return a; } }", "ReferenceError: a", ""),
		throws("namespace A { export namespace B { print(1); (() => B)(); } }", "ReferenceError: B", "1"),
		throws("namespace A { f(); export namespace B {} function f() { return B; } }", "ReferenceError: B", ""),
		done("namespace N { export function f() { return N; } export const a = 1; } print(N.f() === N, N.f().a);", "true 1"),
		done("try { f(); } catch (e) { print(e); } namespace N { try { f(); } catch (e) { print(e); } export const a = 2; } print(f()); function f() { return N.a; }", "ReferenceError: N\nReferenceError: N\n2"),
		done("const l = []; namespace N { l.push(() => N); export const a = 1; } print(l[0](), l[0]() === N);", "{a: 1} true"),
	)
}

// P17.1: what is exported is what the variables had at the end; neither is changed by the other behind that.
func TestExportsChanged(t *testing.T) {
	gives(t,
		done("namespace N { export const l = []; l.push(1); export function set(x) { l.push(x); } } N.set(2); N.l.push(3); N.l = 4; N.set(5); print(N); N.m = 6; print(N);", "{l: 4, set: function}\n{l: 4, set: function, m: 6}"),
		done("namespace N { export const l = {a: 1}; export function get() { return l.a; } } N.l.a = 2; print(N.get()); N.l = {a: 3}; print(N.get(), N.l.a); N.get = () => 4; print(N.get());", "2\n2 3\n4"),
		done("namespace N { export enum E { A } export function f() { return E.A; } E.A = 5; } print(N, N.f()); N.E.A = 6; print(N.f()); N.E = {}; print(N.f(), N.E);", "{E: {A: 5}, f: function} 5\n6\n6 {}"),
		done("namespace N { export namespace M { export const a = 1; } M.a = 2; M.b = 3; export function f() { return M; } } print(N, N.f() === N.M);", "{M: {a: 2, b: 3}, f: function} true"),
		done("class A { m() { return this === undefined ? 0 : this.a; } } const m = new A().m; namespace N { export const a = 1; export const f = m; } print(N.f(), m(), N[\"f\"](), (N.f as any)(), (1 && N.f)());", "1 0 1 1 0"),
	)
}

// P17.1: what ends within a Namespace ends it: its variable has no value then.
func TestNamespacesThatEnd(t *testing.T) {
	gives(t,
		throws("namespace N { print(1); throw 5; print(2); }", "5", "1"),
		throws("namespace N { export const a = null.b; } print(1);", "TypeError: no members", ""),
		throws("namespace N { namespace M { (() => { throw 1; })(); } print(1); }", "1", ""),
		done("function f() { return N; } try { namespace M { print(1); throw 5; } } catch (e) { print(e); } namespace N { try { namespace M { export const a = (() => { throw 6; })(); } } catch (e) { print(e); } finally { print(7); } export const b = 8; } print(f());", "1\n5\n6\n7\n{b: 8}"),
		throws("function f() { try { namespace N { throw 1; } } finally { print(2); } } try { f(); } catch (e) { print(e); } f();", "1", "2\n1\n2"),
		done("function f() { try { namespace N { throw 1; } } catch (e) { return e; } } for (const x of [1, 2]) { try { namespace N { if (x === 1) { throw x; } } print(3); } catch (e) { continue; } finally { print(f()); } }", "1\n3\n1"),
		ends(api.EndInexact, "try { namespace N { print(1); 1 % 0; } } catch (e) { print(2); } finally { print(3); }", "1"),
		ends(api.EndDeep, "function f() { f(); } try { namespace N { f(); } } catch (e) { print(2); } finally { print(3); }", ""),
		ends(api.EndHeap, "let s = \"ab\"; while (s.length < 40000) { s += s; } try { namespace N { export const t = `${s}${s}`; } } finally { print(3); }", ""),
	)
}

// P17.1: a Namespace is a step, and so is each of its statements, but no Export; its object and each member is a cell.
func TestStepsOfNamespaces(t *testing.T) {
	wants(t,
		costs{"namespace N {}", 1, 3}, costs{"namespace N { ; }", 2, 3}, costs{"namespace N { export const a = 1; }", 3, 4}, costs{"namespace N { const a = 1; }", 3, 3}, costs{"namespace N { function f() {} }", 2, 4}, costs{"namespace N { export function f() {} }", 2, 5}, costs{"namespace N { export class C {} }", 2, 6},
		costs{"namespace N { export enum E { A } }", 2, 6}, costs{"namespace N { const enum F { A } }", 2, 3}, costs{"namespace N { export interface I {} export type T = 1; }", 3, 3}, costs{"namespace N { export namespace M { export const a = 1; } }", 4, 6}, costs{"namespace N { export const a = 1; } N.a;", 6, 4},
		costs{"interface I {}", 1, 2}, costs{"type T = 1;", 1, 2}, costs{"{ interface I {} type T = 1; interface J {} }", 4, 2}, costs{"function f() { interface I {} } f();", 6, 3},
		costs{"for (const x of [1, 2]) { namespace N { export const a = x; } }", 12, 9}, costs{"function f() { namespace N { export const a = 1; } return N; } f(); f();", 19, 7}, costs{"if (0) { namespace N { ; } }", 2, 2},
	)
}

// P17.1: what has no cell: the Funcs of the scope, the object, each member; what was ahead of it was done.
func TestRoomOfNamespaces(t *testing.T) {
	text := "print(1); namespace N { print(2); export function f() {} export const a = 1; function g() {} } print(3);"
	for cells, want := range map[int]struct {
		steps   int
		outputs []string
	}{
		2: {5, []string{"1"}}, 3: {5, []string{"1"}}, 4: {13, []string{"1", "2"}}, 5: {13, []string{"1", "2"}}, 6: {13, []string{"1", "2"}},
	} {
		if got := agrees(t, text, read(t, text), nil, plenty, cells); !got.isOver(want.steps, cells, want.outputs...) {
			t.Errorf("%d cells: %+v", cells, got)
		}
	}
}

// P17.1: a Namespace is a call under way while its statements are done, and no more.
func TestFramesOfNamespaces(t *testing.T) {
	for what, s := range map[string]string{
		"the last of all":       "function f(n) { if (n > 1) { f(n - 1); } else { namespace X { print(n); } } } f(N - 1);",
		"each one":              "function f(n) { namespace X { if (n > 3) { f(n - 2); } else { print(n); } } } f(N);",
		"the first of all":      "function f(n) { if (n > 1) { f(n - 1); } } namespace X { f(N - 1); }",
		"exported":              "function f(n) { return n > 1 ? f(n - 1) : 0; } namespace X { export namespace Y { export const a = f(N - 2); } }",
		"many, one by one":      "function f(n) { return n > 1 ? f(n - 1) : 0; } namespace X { ; } for (const x of [1, 2]) { namespace X { const y = x; } namespace Y { f(N - 1); } } f(N);",
		"one that threw":        "function f(n) { return n > 1 ? f(n - 1) : 0; } for (const x of [1, 2]) { try { namespace X { throw 1; } } catch (e) { f(N); } }",
		"in makings":            "class A { constructor(n) { namespace X { if (n > 3) { new A(n - 2); } } } } new A(N);",
		"in Fields":             "let n = N; class A { v = (() => { namespace X { if ((n -= 3) > 2) { new A(); } } })(); } new A();",
		"in a Method, a Try":    "class A { m(n) { try { namespace X { if (n > 3) { new A().m(n - 2); } } } catch (e) { print(e); } finally { ; } } } new A().m(N);",
		"functions of its own":  "namespace X { function f(n) { return n > 1 ? f(n - 1) : 0; } f(N - 1); }",
		"behind it, called":     "namespace X { export function f(n) { return n > 1 ? X.f(n - 1) : 0; } } X.f(N);",
		"what is no call there": "function f(n) { if (n > 1) { f(n - 1); } else { enum E { A } interface I {} const enum F { A } print(F.A as any, E.A!); } } f(N);",
	} {
		for n, end := range map[int]int{196: api.EndDone, 198: api.EndDone, 200: api.EndDone, 202: api.EndDeep, 204: api.EndDeep, 1000: api.EndDeep} {
			x := read(t, "const N = "+strconv.Itoa(n)+"; "+s)
			if got := agrees(t, what, x, nil, plenty, plenty); got.End != end {
				t.Errorf("%s, %d: %+v", what, n, got)
			}
		}
	}
	for n, end := range map[int]int{199: api.EndDone, 200: api.EndDeep} {
		s := strconv.Itoa(n)
		gives(t,
			does{text: "print(1); function f(n) { if (n > 1) { f(n - 1); } else { namespace X { function g() {} } } } f(" + s + ");", end: end, out: "1"},
			does{text: "print(1); function f(n) { return n > 1 ? f(n - 1) : 0; } namespace X { f(" + s + "); }", end: end, out: "1"},
		)
	}
	// No scope of one that is too deep is entered: its Funcs are not made.
	text := "function f(n) { if (n > 1) { f(n - 1); } else { namespace X { function g() {} } } } f(200);"
	if got := agrees(t, text, read(t, text), nil, plenty, plenty); got.End != api.EndDeep || got.Cells != 3 {
		t.Errorf("%+v", got)
	}
}
