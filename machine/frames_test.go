package machine_test

import (
	"strconv"
	"testing"

	"shuck/api"
)

// depths are programs that have so many calls under way at most, N of them.
func depths() map[string]string {
	return map[string]string{
		"calls":               "function f(n) { if (n > 1) { f(n - 1); } } f(N);",
		"arrows":              "const f = (n) => n > 1 ? f(n - 1) : 0; f(N);",
		"arrows with Blocks":  "const f = (n) => { if (n > 1) { f(n - 1); } }; f(N);",
		"Methods":             "class A { m(n) { if (n > 1) { this.m(n - 1); } } } new A().m(N);",
		"makings by Ctors":    "class A { constructor(n) { if (n > 1) { new A(n - 1); } } } new A(N);",
		"makings by Fields":   "let n = N; class A { v = (n -= 1) && new A(); } new A();",
		"calls between":       "function f(n) { return [n < 2 || ({m: f})[\"m\"](n - 1)]; } f(N);",
		"within Trys":         "function f(n) { try { if (n > 1) { f(n - 1); } } catch (e) { print(e); } finally { ; } } f(N);",
		"within last Blocks":  "function f(n) { try { return 1; } finally { if (n > 1) { f(n - 1); } } } f(N);",
		"within Catches":      "function f(n) { try { throw 1; } catch (e) { if (n > 1) { f(n - 1); } } } f(N);",
		"within loops":        "function f(n) { for (const x of [1]) { while (n > 1) { f(n - 1); break; } } } f(N);",
		"with arguments":      "function f(n) { return n > 1 ? f(f2(n)) : 0; } function f2(n) { return n - 1; } f(N);",
		"print as the last":   "function f(n) { return n > 1 ? f(n - 1) : print(1); } f(N);",
		"input, push":         "function f(n) { return n > 1 ? f(n - 1) : [input()].push(2); } f(N);",
		"many, one by one":    "let i = 0; while (i < 3) { const f = (n) => n > 1 ? f(n - 1) : 0; f(N); i += 1; } ",
		"behind what is left": "function f(n) { if (n < 2) { throw 1; } f(n - 1); } for (const x of [1, 2]) { try { f(N); } catch (e) { ; } } const g = (n) => n > 1 ? g(n - 1) : 0; g(N);",
	}
}

// P16.1: MaxFrames calls may be under way, one more ends the run, which no Try sees.
func TestFrames(t *testing.T) {
	for what, s := range depths() {
		for n, end := range map[int]int{1: api.EndDone, 2: api.EndDone, 199: api.EndDone, 200: api.EndDone, 201: api.EndDeep, 202: api.EndDeep, 1000: api.EndDeep} {
			x := read(t, "const N = "+strconv.Itoa(n)+"; "+s)
			if got := agrees(t, what, x, nil, plenty, plenty); got.End != end {
				t.Errorf("%s, %d: %+v", what, n, got)
			}
		}
	}
}

// P16.1: a class with 199 Bases makes by 200 makings; one more is too many. A Ctor counts no more than its making.
func TestFramesOfBases(t *testing.T) {
	t.Parallel()
	for _, inside := range []string{"", " v = 1; "} {
		for count, end := range map[int]int{0: api.EndDone, 198: api.EndDone, 199: api.EndDone, 200: api.EndDeep, 250: api.EndDeep} {
			x := read(t, bases(count, inside)+"new o.C();")
			if got := agrees(t, inside, x, nil, plenty, plenty); got.End != end {
				t.Errorf("%q %d: %+v", inside, count, got)
			}
			x = read(t, bases(count, inside)+"function f() { return new o.C(); } f();")
			if count == 199 {
				end = api.EndDeep
			}
			if got := agrees(t, inside, x, nil, plenty, plenty); got.End != end {
				t.Errorf("%q %d: %+v", inside, count, got)
			}
		}
	}
	s := "class C0 { constructor(x) { print(x); } } "
	for i := range 199 {
		s += "class C" + strconv.Itoa(i+1) + " extends C" + strconv.Itoa(i) + " { constructor(x) { super(x + 1); } } "
	}
	gives(t, done(s+"new C199(0);", "199"))
	gives(t, ends(api.EndDeep, s+"class D extends C199 {} new D(0);", ""))
}

// P16.1: what a call that is too deep would have done: its arguments are done, a New has its object; nothing of it is begun.
func TestTooDeep(t *testing.T) {
	gives(t,
		ends(api.EndDeep, tracing+"function f(n) { if (n < 2) { g(print(n)); } f(n - 1); } function g() { print(\"g\"); } f(200);", "1"),
		ends(api.EndDeep, "function f(n) { try { f(n + 1); } catch (e) { print(e); } finally { print(2); } } f(1);", ""),
	)
	deep := "function f(n) { if (n > 1) { f(n - 1); } else { "
	for what, x := range map[string]int{"new A();": 6, "g();": 5, "(() => 1)();": 6, "({}).x = 1;": 7} {
		s := "class A {} " + deep + what + " } } function g() {} f(200);"
		if got := agrees(t, s, read(t, s), nil, plenty, plenty); got.Cells != x+1 {
			t.Errorf("%s: %+v", what, got)
		}
	}
	// Where the object of a New has no cell, that is what ends the run.
	s := "class A {} " + deep + "new A(); } } f(200);"
	if got := agrees(t, s, read(t, s), nil, plenty, 5); got.End != api.EndHeap {
		t.Error(got)
	}
}
