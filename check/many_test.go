package check_test

import (
	"strings"
	"testing"

	"shuck/api"
	"shuck/check"
)

// orders is an interface P, of so many parameters, that leads to itself in all orders of these, and Q, which P leads to many pairs with; each has more members besides.
func orders(count int, ofP, ofQ string) (declared, p string) {
	l := names("A", count)
	turned := append([]string{l[1], l[0]}, l[2:]...)
	round := append(l[1:count:count], l[0])
	return "interface P" + list(l) + " { a: P" + list(turned) + "; b: P" + list(round) + "; " + ofP + " } interface Q { a: Q; b: Q; " + ofQ + " } interface Box<X> { v: X } interface Two<X, Y> { x: X; y: Y } ", "P" + list(l)
}

// behind holds a call of f with Params and arguments against what its T is matched by: @ stands for P with parameters of f's, and q for a Q.
func behind(t *testing.T, count int, ofP, ofQ, params, arguments, want string) {
	t.Helper()
	head, p := orders(count, ofP, ofQ)
	params = strings.ReplaceAll(params, "@", p)
	text := head + "function f<" + p[2:len(p)-1] + ", T>(" + params + "): T { throw 1; } function g(q: Q, n: number | null) { f(" + arguments + "); }"
	x := read(t, text)
	c := check.Program(x)
	// All orders of a few are gone through by the slow reading, too.
	if count <= 6 {
		agrees(t, text, x)
	}
	if c.Err != api.OK && c.Err != api.ErrType {
		t.Fatalf("%s: %v", text, c.Err)
	}
	for n, node := range x.Nodes {
		if node.Kind == api.Call && c.Types[n] != want {
			t.Errorf("%s: %q, not %q", text, c.Types[n], want)
		}
	}
}

// P12.1: what is behind pairs in all orders of some parameters, of which none matches, is matched.
func TestBehindMany(t *testing.T) {
	for _, count := range []int{2, 3, 4, 5, 6, 9, 10, 12, 40} {
		for _, r := range [][3]string{
			// By a parameter itself: in the same argument, in another one; and ahead of them.
			{"x: {p: @; z: T}", "{p: q, z: 1}", "number"},
			{"x: @, z: T", "q, \"\"", "string"},
			{"x: @[], y: @, z: T", "[q], q, null", "null"},
			{"x: {a: T; p: @}", "{p: q, a: 1}", "number"},
			{"x: {p: @; q: @; z: T}", "{p: q, q: q, z: 1}", "number"},
			{"x: {p: @}, y: {p: @; z: T}", "{p: q}, {p: q, z: 1}", "number"},
			{"x: {p: @; z: T}, y: T", "{p: q}, \"\"", "string"},
			// By a Ref's Parts.
			{"x: {p: @; z: Box<T>}", "{p: q, z: 1 as any as Box<1>}", "number"},
			{"x: {p: @; z: Two<1, T[]>}", "{p: q, z: 1 as any as Two<1, null[]>}", "null"},
			{"x: Two<@, T>", "1 as any as Two<Q, \"\">", "string"},
			{"x: Two<@, Box<T>>", "1 as any as Two<Q, Box<number>>", "number"},
			// By pieces, and by an array's Part.
			{"x: Two<@, Box<T>>", "{x: q, y: {v: 1}}", "number"},
			{"x: {p: @; z: T[][]}", "{p: q, z: [[1]]}", "number"},
			// By a function's parameter, and by its answer.
			{"x: {p: @; z: () => T}", "{p: q, z: () => 1}", "number"},
			{"x: {p: @; z: (y: T) => 1}", "{p: q, z: (y: string) => 1}", "string"},
			{"x: (p: @) => T", "(p: Q) => 1", "number"},
			{"x: (p: @, z: T) => @", "(p: Q, z: null) => q", "null"},
			{"x: () => {p: @; z: T}", "() => ({p: q, z: 1})", "number"},
			// By what a union leaves.
			{"x: {p: @; z: T | null}", "{p: q, z: n}", "number"},
			{"x: {p: @; z: T | Q}", "{p: q, z: 1 as any as Q | string}", "string"},
			{"x: {p: @; z: T | Q}", "{p: q, z: q}", "never"},
			{"x: @, z?: T", "q, 1", "number"},
			// By nothing.
			{"x: {p: @; z: T}", "{p: q}", "unknown"},
			{"x: {p: @; z: T[]}", "{p: q, z: 1}", "unknown"},
		} {
			behind(t, count, "", "", r[0], r[1], r[2])
			behind(t, count, "k: Box<A0> | null; o: A0", "k: {v: 1} | null", r[0], r[1], r[2])
		}
	}
}

// P12.1: nothing offends in a call that leads to all orders of nine parts.
func TestNineParts(t *testing.T) {
	verdict(t, "nine parts", read(t, "interface P<A,B,C,D,E,F,G,H,I>{a:P<B,A,C,D,E,F,G,H,I>;b:P<B,C,D,E,F,G,H,I,A>} interface Q{a:Q;b:Q} function f<A,B,C,D,E,F,G,H,I,T>(x:{p:P<A,B,C,D,E,F,G,H,I>;z:T}):T{return x.z;} function g(q:Q):number{return f({p:q,z:1});}"), api.OK, -1)
}

// P12.1: what the many pairs match themselves, be it ahead of others of theirs or behind them.
func TestAmongMany(t *testing.T) {
	for _, count := range []int{2, 3, 4, 5, 6, 9, 10, 12} {
		behind(t, count, "_: A0", "_: string", "x: @, y: {r: A0}, z: T", "q, {r: 1}, \"\"", "string")
		behind(t, count, "c: A0", "c: string", "x: @, z: {r: T}", "q, {r: 1}", "number")
		behind(t, count, "", "", "x: @, y: {r: A0}, z: {r: T}", "q, {r: 1}, {r: null}", "null")
	}
}

// P12.1: pairs of which it can't be told ahead that they match nothing: each is gone through, and what is behind them is matched.
func TestThroughMany(t *testing.T) {
	for _, count := range []int{2, 4, 6, 9} {
		behind(t, count, "s: Box<number>; t: Box<A0>", "s: {v: string}; t: {}", "x: {p: @; z: T}", "{p: q, z: 1}", "number")
	}
}

// P12.1: among many pairs one whose members are too large, or just not.
func TestLargeAmongMany(t *testing.T) {
	for _, count := range []int{3, 6, 7} {
		for _, size := range []int{60, 61} {
			head, p := orders(count, "z: 1; k: {a: A0; b: A0; c: A0; d: A0; e: A0; f: A0; g: A0; h: A0; i: A1[][][][][][][][][][][][][][][][][]}", "")
			l := strings.Split(p[2:len(p)-1], ", ")
			l[count-1] = nested(size)
			text := head + "function f<" + strings.Join(l[:count-1], ", ") + ", T>(x: P" + list(l) + ", z: T): T { throw 1; } function g(q: Q) { f(q, 1); }"
			c := check.Program(read(t, text))
			want := api.ErrType // Q lacks z
			if 1+8*size+1+17 > api.MaxSize {
				want = api.ErrComplex
			}
			if c.Err != want {
				t.Errorf("%d, %d: %v, %d, not %v", count, size, c.Err, c.Node, want)
			}
		}
	}
	// Ever larger ones behind all orders.
	for _, count := range []int{2, 3, 4} {
		l := names("A", count)
		larger := append([]string{l[0] + "[]"}, l[1:]...)
		head, p := orders(count, "c: P"+list(larger)+"; z: 1", "c: Q")
		complexes(t, head+"function f"+p[1:]+"(x: "+p+") {} function g(q: Q) { f(q); }")
	}
}
