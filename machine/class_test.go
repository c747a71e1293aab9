package machine_test

import (
	"strconv"
	"strings"
	"testing"

	"shuck/api"
)

// P16.1: classes with and without Base, Ctor, Fields and Methods.
func TestClasses(t *testing.T) {
	gives(t,
		done("class A {} print(A, new A(), new A(1) === new A(), typeof A, typeof new A());", "class {} false function object"),
		done("class A { v = 1; w = [this.v]; } print(new A());", "{v: 1, w: [1]}"),
		done("class A { v = 1; v = this.v + 1; } print(new A());", "{v: 2}"),
		done("class A { constructor(a, b) { this.a = a; this.b = b; } } print(new A(1), new A(1, 2, 3));", "{a: 1, b: undefined} {a: 1, b: 2}"),
		done("class A { v = 1; constructor(a) { this.v += a; return; } } print(new A(2));", "{v: 3}"),
		done("class A { constructor(a) { if (a) { return; } this.x = 1; } } print(new A(1), new A(0));", "{} {x: 1}"),
		done("class A { m(a) { return a + 1; } m(a) { return a + 2; } k() { return this.m(1); } } print(new A().k(), new A().m === new A().m, new A().nothing);", "3 true undefined"),
		done("class A { m() { return 1; } } const a = new A(); a.m = () => 2; print(a.m(), new A().m(), a);", "2 1 {m: function}"),
		done("class A { f = () => this; g = (x) => [this.n, x]; n = 3; } const a = new A(); const f = a.f; print(f() === a, [a.g][0](1));", "true [3, 1]"),
		done("const l = []; for (const x of [1, 2]) { class A { v = x; m() { return x * 10; } } l.push(new A()); } print(l[0].v, l[1].m(), l);", "1 20 [{v: 1}, {v: 2}]"),
		done("class A { constructor() { this.m = () => this; } } const a = new A(); print(a.m() === a);", "true"),
		done("const o = {}; class A { v = 1; } o.A = A; o.b = {A: A}; print(new o.A(), new o.b.A());", "{v: 1} {v: 1}"),
		done("class A { m() { return this; } } const m = new A().m; const o = {m: m}; print(m(), o.m() === o);", "undefined true"),
		done("class A { v = () => { return typeof this; }; } const f = new A().v; print(f());", "object"),
	)
}

// P16.1: a class with a Base: who makes what, in which order.
func TestBases(t *testing.T) {
	gives(t,
		done(tracing+"class A { a = t(1); constructor(x) { t(x); } } class B extends A { b = t(2); } class C extends B { c = t(3); constructor(x, y) { super(t(x + 10), 0); t(y); } } print(new C(5, 6));", "15\n1\n15\n2\n3\n6\n{a: 1, b: 2, c: 3}"),
		done("class A { v = 1; } class B extends A { v = this.v + 1; } class C extends B { v = this.v * 5; } print(new C());", "{v: 10}"),
		done("class A { constructor(x) { this.x = x; } } class B extends A {} class C extends B {} print(new C(7, 8));", "{x: 7}"),
		done("class A { m() { return [\"A\", this.n]; } k() { return \"k\"; } } class B extends A { n = 1; m() { return [\"B\", super.m()]; } } class C extends B { m() { return [\"C\", super.m(), super.k(), super.k === super.nothing]; } } print(new C().m());", "[\"C\", [\"B\", [\"A\", 1]], \"k\", false]"),
		done("class A { m() { return 1; } } class B extends A {} class C extends B { m() { const f = () => super.m() + 1; return f(); } v = super.m(); w = () => super.m; } print(new C().m(), new C().v, new C().w()());", "2 1 1"),
		done("class A { m() { return 1; } } class B extends A { m() { return 2; } constructor() { super(); this.v = super.m(); this.w = this.m(); } } print(new B());", "{v: 1, w: 2}"),
		done("class A { m() { return this; } } class B extends A { m() { return super.m(); } } const m = new B().m; print(m(), {m: m}.m());", "undefined {m: function}"),
		done("class A { constructor(f) { this.f = f; } } class B extends A { v = 1; constructor() { super(() => this); } } const b = new B(); print(b.f() === b, b);", "true {f: function, v: 1}"),
		done("class A { constructor(o) { this.o = o === this; } } class B extends A { constructor() { super(this); } } print(new B());", "{o: true}"),
		done("class A { m() { return \"A\"; } } class B extends A { make() { class C { m() { return \"C\"; } } class D extends C { m() { return super.m() + \"D\"; } } return new D().m() + super.m(); } } print(new B().make());", "CDA"),
		done("class A {} class B extends A {} A.s = 1; print(B.s, A.s, new B().s);", "undefined 1 undefined"),
		done("class A { m() { return this.k(); } k() { return 1; } } class B extends A { k() { return 2; } } print(new B().m());", "2"),
	)
}

// P16.1: the scopes of a Base's Fields, Ctor and Methods are those of its own class.
func TestScopesOfClasses(t *testing.T) {
	gives(t,
		done("function make(x) { class A { v = x; m() { return [x, this.v]; } constructor(y) { this.y = [x, y]; } } return A; } const B = make(1); class D { x = B; } let A = make(2); const o = {A: A, B: B}; print(new o.A(5), new o.B(6), new o.B(7).m());", "{v: 2, y: [2, 5]} {v: 1, y: [1, 6]} [1, 1]"),
		done("let A = make(3); function make(x) { class A { v = x; m() { return x; } } return A; } function sub(x) { class B extends A { w = x; constructor(v) { super(); const x = 9; this.z = [x, v]; } m() { return [x, super.m()]; } } return new B(4); } print(sub(5), sub(6).m());", "{v: 3, w: 5, z: [9, 4]} [6, 3]"),
		done("let n = 0; class A { v = n += 1; } class B extends A { w = n += 1; } print(new B(), new A(), n);", "{v: 1, w: 2} {v: 3} 3"),
		done("class A {} class B extends A { f = (x) => { let y = x + 1; return ((z) => [x, y, z])(y + 1); }; constructor(p, q) { super(); const r = p; this.r = [p, q, r]; } } print(new B(1, 2).f(3), new B(4, 5).r);", "[3, 4, 5] [4, 5, 4]"),
		done("let k = 1; class A { constructor(a) { let b = a; { let c = b; this.g = (d) => { let e = d; return [k, a, b, c, d, e]; }; } } } class B extends A { f = ((x) => (y) => { const z = [k, x, y]; return z; })(2); constructor(p) { super(p); k += 1; } } const b = new B(5); print(b.f(3), b.g(4));", "[2, 2, 3] [2, 5, 5, 5, 4, 4]"),
		done("function f(p) { class A { v = p; constructor(p) { const q = p; this.w = [p, q]; } } return new A(p + 1); } print(f(1));", "{v: 1, w: [2, 2]}"),
	)
}

// P16.1: a Base, and what is made, that is no class.
func TestNoClass(t *testing.T) {
	for _, x := range []string{"1", "null", "undefined", "{}", "[]", "\"a\"", "() => 1", "print", "new D()", "true"} {
		gives(t,
			throws("class D {} const A = "+x+"; class B extends A {} print(1);", "TypeError: no class", ""),
			throws(tracing+"class D {} const A = "+x+"; new A(t(2));", "TypeError: no class", "2"),
			throws(tracing+"class D {} const o = {A: "+x+"}; new o.A(t(2));", "TypeError: no class", "2"),
		)
	}
	gives(t,
		throws("class A extends print {}", "TypeError: no class", ""),
		throws("function f() {} class A extends f {}", "TypeError: no class", ""),
		throws("function f(p) { class A extends p {} return A; } class B { m() { return 4; } } const o = {A: f(B)}; print(new o.A().m()); f(1);", "TypeError: no class", "4"),
		throws("try { throw 1; } catch (e) { class A extends e {} }", "TypeError: no class", ""),
		throws("new print(1);", "TypeError: no class", ""),
		throws("const o = null; new o.A(1);", "TypeError: no members", ""),
		throws("const o = {}; new o.A(1);", "TypeError: no class", ""),
		done("class A { m() { return 1; } } let B = A; class C extends B {} B = null; print(new C().m(), C, B);", "1 class null"),
	)
}

// P16.1: what is done of a Class takes cells in its order.
func TestCellsOfClasses(t *testing.T) {
	wants(t,
		costs{"class A { m() {} k() {} constructor() {} v = 1; }", 1, 8},
		costs{"class A {} class B extends A {}", 2, 6},
		costs{"class A { v = 1; w = {}; } new A();", 6, 8},
		costs{"class A { m() {} } for (const x of [1, 2]) { class B extends A { m() {} } }", 9, 17},
	)
	x := read(t, "class A { m() {} } try { A; } finally { print(1); }")
	for cells := 2; cells < 6; cells++ {
		if got := agrees(t, "a Class", x, nil, plenty, cells); got.End != api.EndHeap || got.Steps != 1 || got.Cells != cells {
			t.Error(cells, got)
		}
	}
}

// bases is a class with so many Bases behind one another.
func bases(count int, inside string) string {
	var s strings.Builder
	s.WriteString("class C0 {" + inside + "} ")
	for i := range count {
		s.WriteString("class C" + strconv.Itoa(i+1) + " extends C" + strconv.Itoa(i) + " {" + inside + "} ")
	}
	return s.String() + "const o = {C: C" + strconv.Itoa(count) + "}; "
}

// P16.1: SuperMember through many Bases.
func TestManyBases(t *testing.T) {
	s := "class C0 { m() { return 1; } } "
	for i := range 50 {
		s += "class C" + strconv.Itoa(i+1) + " extends C" + strconv.Itoa(i) + " { " + pickAt(i, "m() { return super.m() + 1; }", "v = 1;") + " } "
	}
	gives(t, done(s+"print(new C50().m());", "26"))
}

func pickAt(i int, l ...string) string { return l[i%len(l)] }
