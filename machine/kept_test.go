package machine_test

import (
	"testing"

	"shuck/api"
)

// P17.1: Params that are Public, Readonly, both become members, in their order; others do not.
func TestKept(t *testing.T) {
	gives(t,
		done("class P { constructor(public a) {} } print(new P(1), new P(), new P(1, 2));", "{a: 1} {a: undefined} {a: 1}"),
		done("class P { constructor(readonly a) {} } print(new P(1));", "{a: 1}"),
		done("class P { constructor(public readonly a?: any) {} } print(new P(1));", "{a: 1}"),
		done("class P { constructor(a, b?: any) {} } print(new P(1, 2));", "{}"),
		done("class P { constructor(public a?, b, readonly c, d?: T, public readonly e: any) {} } print(new P(1, 2, 3, 4, 5), new P(1, 2, 3), new P());", "{a: 1, c: 3, e: 5} {a: 1, c: 3, e: undefined} {a: undefined, c: undefined, e: undefined}"),
		done("class P { constructor(public b, public a, readonly c) {} } print(new P(1, 2, 3));", "{b: 1, a: 2, c: 3}"),
		done("class P { constructor(public print, readonly length, public P) { print(P); } } print(new P(print, 2, 3));", "3\n{print: function, length: 2, P: 3}"),
		done("class P { constructor(public a) { return; } } class Q { constructor(public a) { if (a) { return; } this.b = 1; } } print(new P(1), new Q(1), new Q(0));", "{a: 1} {a: 1} {a: 0, b: 1}"),
		done("class P { m() { return this.a; } constructor(public a) { print(this.m(), this); } } print(new P(1).m());", "1 {a: 1}\n1"),
		done("class P { a() { return 1; } constructor(public a) {} } class Q { a() { return 1; } } print(new P(2).a, new Q().a());", "2 1"),
		done("namespace N { export class P<T> { constructor(public a?: T) {} } } function f(x) { class Q { constructor(public y) { this.z = [x, y]; } } return new Q(x + 1); } print(new N.P<number>(1), f(2));", "{a: 1} {y: 3, z: [2, 3]}"),
	)
}

// P17.1: they are set ahead of the Block's first statement, behind the Fields; and behind the Super, if the class has a Base.
func TestKeptInTime(t *testing.T) {
	gives(t,
		done("class P { constructor(public a) { print(this); this.a = 5; } } print(new P(1));", "{a: 1}\n{a: 5}"),
		done("class P { a = 1; b = this.a; constructor(public a, readonly c) { print(this); } } new P(2, 3);", "{a: 2, b: 1, c: 3}"),
		done("class P { x = typeof this.a; constructor(public a) {} } print(new P(2));", "{x: \"undefined\", a: 2}"),
		done("class P { v; readonly w: any; x = 1; constructor(public a) {} } print(new P(2));", "{x: 1, a: 2}"),
		done(tracing+"class A { a = t(1); constructor(public x) { t(this); } } class B extends A { b = t(2); constructor(public y, x) { super(t(x)); t(this); } } print(new B(3, 4));", "4\n1\n{a: 1, x: 4}\n2\n{a: 1, x: 4, b: 2, y: 3}\n{a: 1, x: 4, b: 2, y: 3}"),
		done("class A {} class B extends A { constructor(public y) { super(); } } class C extends B { constructor(readonly z, public y) { super(z + 1); } } print(new B(1), new C(2, 3));", "{y: 1} {y: 3, z: 2}"),
		done("class A { constructor(public x) {} } class B extends A {} class C extends B { c = this.x; constructor(public x) { super(x * 2); print(this); } } print(new B(1), new C(2));", "{x: 2, c: 4}\n{x: 1} {x: 2, c: 4}"),
		done("class A { constructor(o) { o(this); } } class B extends A { v = 1; constructor(public y) { super((o) => { print(o, y, o === this); }); print(this); } } new B(5);", "{} 5 true\n{v: 1, y: 5}"),
	)
}

// P17.1: what is set is what the Param has then.
func TestKeptAsItIs(t *testing.T) {
	gives(t,
		done("class P { constructor(public a) { a = 5; print(a, this.a); this.a = 6; print(a); } } print(new P(1));", "5 1\n5\n{a: 6}"),
		done("class A { constructor(x) {} } class B extends A { constructor(public y, public z) { super(y = z += 1); print(y, z); } } print(new B(1, 2));", "3 3\n{y: 3, z: 3}"),
		done("class A { constructor(f) { f(7); } } class B extends A { constructor(public y) { super((x) => { y = x; }); } } print(new B(1));", "{y: 7}"),
		done("class P { f = () => 1; constructor(public a, public b) { function f() { return [a, b]; } this.f = f; a = 3; } } const p = new P(1, 2); p.b = 4; print(p, p.f());", "{f: function, a: 1, b: 4} [3, 2]"),
		done("class P { constructor(public a) { const f = () => { class Q { constructor(public a) { this.b = a; } } return new Q(a + 1); }; this.q = f(); } } print(new P(1));", "{a: 1, q: {a: 2, b: 2}}"),
	)
}

// P17.1: that is no step; each that is new is a cell.
func TestStepsOfKept(t *testing.T) {
	wants(t,
		costs{"class P { constructor(public a) {} }", 1, 4}, costs{"class P { constructor(public a) {} } new P(1);", 6, 6}, costs{"class P { constructor(public a, readonly b, c) {} } new P(1);", 6, 7}, costs{"class P { constructor(public a) { ; } } new P();", 6, 6},
		costs{"class P { a = 1; constructor(public a) {} } new P(1);", 7, 6}, costs{"class P { v; constructor(public a) { function f() {} } } new P(1);", 7, 7},
		costs{"class A {} class B extends A { constructor(public a, b) { super(); ; } } new B(1);", 10, 8}, costs{"class A { constructor(public a) {} } class B extends A { constructor(readonly a) { super(a); } } new B(1);", 11, 8},
	)
}

// P17.1: they are set behind the Block's beginning, and behind its scope with its Funcs.
func TestRoomOfKept(t *testing.T) {
	text := "class P { constructor(public a, public b) { function f() {} print(1); } } new P(2);"
	x := read(t, text)
	for cells, steps := range map[int]int{4: 5, 5: 6, 6: 6, 7: 6} {
		if got := agrees(t, text, x, nil, plenty, cells); !got.isOver(steps, cells) {
			t.Errorf("%d cells: %+v", cells, got)
		}
	}
	for fuel, cells := range map[int]int{4: 4, 5: 5, 6: 8, 7: 8} {
		if got := agrees(t, text, x, nil, fuel, plenty); got.End != api.EndFuel || got.Cells != cells {
			t.Errorf("%d steps: %+v", fuel, got)
		}
	}
	text = "class A {} class B extends A { v = 1; constructor(public a, public b) { super(); print(1); } } new B(2);"
	x = read(t, text)
	for cells, steps := range map[int]int{6: 6, 7: 10, 8: 10, 9: 10} {
		if got := agrees(t, text, x, nil, plenty, cells); !got.isOver(steps, cells) {
			t.Errorf("%d cells: %+v", cells, got)
		}
	}
}
