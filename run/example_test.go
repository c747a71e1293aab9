package run_test

import (
	"testing"

	"shuck/api"
)

// P16.1: the examples of the chapter, as they stand there.
func TestExamples(t *testing.T) {
	gives(t,
		done(`print(1 + 2, "a", [1, "b"]);`, `3 a [1, "b"]`),
		done(`let x = input(); while (x !== null) { print(x); x = input(); }`, "p\nq"),
		ends(api.EndDeep, `function f(n) { return n === 0 ? 0 : 1 + f(n - 1); } print(f(5)); f(1000);`, "5"),
		throws(`print(y()); const x = 1; function y() { return x; }`, "ReferenceError: x", ""),
		done(`class A { v = 1; m() { return this.v; } } class B extends A { m() { return super.m() + 1; } } print(new B().m());`, "2"),
		done(`try { throw {a: 1}; } catch (e) { print(e.a); } finally { print("f"); }`, "1\nf"),
		ends(api.EndInexact, `1 % 0;`, ""),
	)
	if got := program(t, read(t, `print(1 + 2, "a", [1, "b"]);`), nil, plenty, plenty); got.Steps != 10 {
		t.Error(got)
	}
}
