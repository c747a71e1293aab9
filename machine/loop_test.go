package machine_test

import "testing"

// P16.1: While and For, with Break and Continue.
func TestLoops(t *testing.T) {
	gives(t,
		done("let n = 0; while (n < 3) { n += 1; if (n === 2) { continue; } print(n); }", "1\n3"),
		done("let n = 0; while (true) { n += 1; if (n === 3) { break; } print(n); } print(n);", "1\n2\n3"),
		done(tracing+"for (let i = t(0); t(i < 2); t(i += 1)) { print(\"b\"); }", "0\ntrue\nb\n1\ntrue\nb\n2\nfalse"),
		done("for (let i = 0; i < 4; i += 1) { if (i === 1) { continue; } if (i === 3) { break; } print(i); }", "0\n2"),
		done("let i = 0; for (; i < 2; ) { print(i); i += 1; }", "0\n1"),
		done("let i = 0; for (;;) { if (i === 2) { break; } i += 1; } print(i);", "2"),
		done("for (let i = 0; i < 2; i += 1) { for (let j = 0; j < 3; j += 1) { if (j === 1) { break; } print(i, j); } }", "0 0\n1 0"),
		done("for (let i = 0; i < 2; i += 1) { let k = 0; while (true) { k += 1; if (k > i) { break; } continue; } print(k); }", "1\n2"),
		done("while (false) { print(1); } for (; \"\"; ) { print(2); } print(3);", "3"),
		done("function f() { while (true) { for (;;) { for (const x of [1]) { return x; } } } } print(f());", "1"),
		throws("while (null.a) {}", "TypeError: no members", ""),
		throws("for (; ; (() => { throw 1; })()) {}", "1", ""),
	)
}

// P16.1: a ForOf over an array: the values that there are when it comes to them.
func TestForOfArrays(t *testing.T) {
	gives(t,
		done("for (const x of [1, \"a\", null, [2]]) { print(x); }", "1\na\nnull\n[2]"),
		done("const l = [1]; for (const x of l) { if (x < 4) { l.push(x + 1); } print(x); } print(l);", "1\n2\n3\n4\n[1, 2, 3, 4]"),
		done("const l = [1, 2]; for (const x of l) { l[1] = 9; print(x); }", "1\n9"),
		done("let l = [1, 2]; for (const x of l) { l = []; print(x); }", "1\n2"),
		done("const l = [1, 2]; for (let x of l) { x = 0; } print(l);", "[1, 2]"),
		done("for (const x of ((y) => ((z) => { let w = y; return [w, y, z]; })(2))(1)) { const v = ((y) => ((z) => [x, y, z])(5))(4); print(v); }", "[1, 4, 5]\n[1, 4, 5]\n[2, 4, 5]"),
		done("let x = [7]; for (const y of x) { for (const x of [y, [8]]) { for (const z of x === y ? [x] : x) { print(x, y, z); } } }", "7 7 7\n[8] 7 8"),
		done("const l = [1, 2]; for (const x of l) { for (const y of l) { print(x, y); if (l.length < 3) { l.push(3); } if (y === 2) { break; } } }", "1 1\n1 2\n2 1\n2 2\n3 1\n3 2"),
		done("const l = []; for (const x of l) { print(x); } l.push(1); for (const x of l) { continue; }", ""),
	)
}

// P16.1: a ForOf over a text: its runes, of a bad byte api.Bad.
func TestForOfTexts(t *testing.T) {
	gives(t,
		done(`for (const x of "aé€😀b") { print(x, x.length); }`, "a 1\né 1\n€ 1\n😀 1\nb 1"),
		done(`for (const x of "") { print(x); }`, ""),
		done(`let s = "ab"; for (const x of s) { s = "xyz"; print(x); }`, "a\nb"),
		done(`const s = "aé"; let n = 0; for (const x of s) { print(x === s[n]); n += 1; }`, "true\ntrue"),
	)
	x := read(t, "for (const x of input()) { print([x]); }")
	for in, out := range map[string]string{
		"a\xffb": "[\"a\"]\n[\"\uFFFD\"]\n[\"b\"]", "\xe2\x82": "[\"\uFFFD\"]\n[\"\uFFFD\"]", "\xed\xa0\x80": "[\"\uFFFD\"]\n[\"\uFFFD\"]\n[\"\uFFFD\"]", "\xc0\x80": "[\"\uFFFD\"]\n[\"\uFFFD\"]", "\uFFFD": "[\"\uFFFD\"]", "\xf4\x90\x80\x80x": "[\"\uFFFD\"]\n[\"\uFFFD\"]\n[\"\uFFFD\"]\n[\"\uFFFD\"]\n[\"x\"]", "": "", "\U0010ffff": "[\"\U0010ffff\"]",
	} {
		if got := agrees(t, in, x, []string{in}, plenty, plenty); lines(got.Outputs) != out {
			t.Errorf("%q: %q, not %q", in, got.Outputs, out)
		}
	}
}

// P16.1: a ForOf over what is neither throws.
func TestForOfOthers(t *testing.T) {
	for _, of := range []string{"1", "0", "null", "undefined", "true", "{}", "print", "() => []", "C", "new C()", "-1"} {
		gives(t, throws("class C {} print(1); for (const x of "+of+") { print(x); }", "TypeError: not iterable", "1"))
	}
}

// P16.1: loops within arrows, Methods, Fields and Ctors.
func TestLoopsWithin(t *testing.T) {
	gives(t,
		done("const f = (l) => { for (const x of l) { if (x > 1) { return x; } } }; print(f([1, 2, 3]), f([]));", "2 undefined"),
		done("class A { v = (() => { let s = 0; for (let i = 0; ; i += 1) { if (i > this.n) { break; } s += i; } return s; }); n = 4; m() { for (const x of \"ab\") { if (x === \"b\") { return [x, this.v()]; } } } constructor() { while (true) { this.n += 1; if (this.n > 5) { return; } } } } print(new A().m(), new A().n);", "[\"b\", 21] 6"),
	)
}
