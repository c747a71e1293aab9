package erase_test

import (
	"testing"

	"shuck/api"
)

// ctor is a program of a class with one Ctor, whose Params and Block are these; with a Base or without.
func ctor(params, block string) string {
	return "class C { constructor(" + params + ") {" + block + "} }"
}

func based(params, block string) string {
	return "class B {} class C extends B { constructor(" + params + ") { super();" + block + "} }"
}

// P13.1: Params that are Public or Readonly: each mark and all of them together, none, one, several, among others.
func TestCtorParams(t *testing.T) {
	for _, c := range []struct{ params, left, statements string }{
		{"", "", ""},
		{"a", "a", ""},
		{"a?: A, b: B, c?", "a, b, c", ""},
		{"public a", "a", "this.a = a;"},
		{"readonly a", "a", "this.a = a;"},
		{"public readonly a", "a", "this.a = a;"},
		{"public a?", "a", "this.a = a;"},
		{"readonly a?: A", "a", "this.a = a;"},
		{"public readonly a?: A", "a", "this.a = a;"},
		{"a, public b", "a, b", "this.b = b;"},
		{"public a: A, b", "a, b", "this.a = a;"},
		{"a, readonly b, c", "a, b, c", "this.b = b;"},
		{"public a, readonly b, public readonly c", "a, b, c", "this.a = a; this.b = b; this.c = c;"},
		{"public c, b, readonly a", "c, b, a", "this.c = c; this.a = a;"},
		{"a, public d?, b?, readonly c: C, e", "a, d, b, c, e", "this.d = d; this.c = c;"},
		{"public print, public C", "print, C", "this.print = print; this.C = C;"},
	} {
		for _, block := range []struct{ ahead, behind string }{
			{"", ""},
			{"print(1);", "print(1);"},
			{"type T = 1; print(1); interface I {} { return; }", "print(1); { return; }"},
			{"const enum F { X = 7 } print(F.X); let y = () => this;", "print(7); let y = () => this;"},
		} {
			gives(t, ctor(c.params, block.ahead), ctor(c.left, c.statements+block.behind))
			gives(t, based(c.params, block.ahead), based(c.left, c.statements+block.behind))
		}
	}
}

// P13.1: every number of marks that a Param may have, in a Ctor alone.
func TestCtorMarks(t *testing.T) {
	for num := range 8 {
		x := turned(read(t, ctor("a", "print(a);")), func(l []api.Node) {
			for n := range l {
				if l[n].Kind == api.Param {
					l[n].Num = num
				}
			}
		})
		got, _ := agrees(t, "a Param's marks", x)
		want := numbered(read(t, ctor("a", "print(a);")))
		if num >= api.Public {
			want = numbered(read(t, ctor("a", "this.a = a; print(a);")))
		}
		if got.err != api.OK || !equal(numbered(got.left), want) {
			t.Errorf("%d: %v, %s", num, got.err, told(got.left))
		}
	}
}

// P13.1: classes in classes and functions, with Ctors of all sorts; what else a class has stays where it is; the first statement stays first.
func TestCtorsWithin(t *testing.T) {
	gives(t,
		"class A { x = 1; y; m(a) {} constructor(public b: B) { print(b); } z = 2; }",
		"class A { x = 1; m(a) {} constructor(b) { this.b = b; print(b); } z = 2; }",
		"class B {} class A extends B<T> { constructor(public b: B, c) { super(b!, () => { class D { constructor(readonly e) {} } }); super.m(); b; } }",
		"class B {} class A extends B { constructor(b, c) { super(b, () => { class D { constructor(e) { this.e = e; } } }); this.b = b; super.m(); b; } }",
		"let f = () => { class A { constructor(public a) { class B extends print { constructor(public a, readonly b) { super(); } } } } };",
		"let f = () => { class A { constructor(a) { this.a = a; class B extends print { constructor(a, b) { super(); this.a = a; this.b = b; } } } } };",
		"namespace N { export class A { constructor(public a) {} } class B extends A { constructor(public b) { super(b); b; } } }",
		"const N = (() => { class A { constructor(a) { this.a = a; } } class B extends A { constructor(b) { super(b); this.b = b; b; } } return {A: A}; })();",
		// A Base whose List goes is a Base all the same; what a class implements is none.
		"class B {} class A extends B<A> implements I { constructor(public a) { super(); } }",
		"class B {} class A extends B { constructor(a) { super(); this.a = a; } }",
		"class A implements B { constructor(public a) { a; } }",
		"class A { constructor(a) { this.a = a; a; } }",
	)
}
