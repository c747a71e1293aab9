package machine_test

import (
	"testing"

	"shuck/api"
)

// t prints what it is handed, and answers it: so programs tell in which order things are done.
const tracing = "function t(x) { print(x); return x; } "

// P16.1: what is done of an expression, in which order.
func TestOrderOfExpressions(t *testing.T) {
	gives(t,
		done(tracing+"print([t(1), t(2), t(3)]);", "1\n2\n3\n[1, 2, 3]"),
		done(tracing+"print({a: t(1), b: t(2), a: t(3)});", "1\n2\n3\n{a: 3, b: 2}"),
		done(tracing+"print(`${t(1)}-${t(2)}`);", "1\n2\n1-2"),
		done(tracing+"print(t(1) + t(2) * t(3));", "1\n2\n3\n7"),
		done(tracing+"print(t(0) && t(1), t(1) && t(2), t(0) || t(3), t(4) || t(5));", "0\n1\n2\n0\n3\n4\n0 2 3 4"),
		done(tracing+"print(t(1) ? t(2) : t(3), t(0) ? t(4) : t(5));", "1\n2\n0\n5\n2 5"),
		done(tracing+`print(t("a") in t({a: 1}), "b" in t([]), "length" in []);`, "a\n{a: 1}\n[]\ntrue false true"),
		done(tracing+"print(t([5])[t(0)], t({a: 1}).a);", "[5]\n0\n{a: 1}\n5 1"),
		done(tracing+"print(-t(1), !t(2), ~t(3), typeof t(4));", "1\n2\n3\n4\n-1 false -4 number"),
		done(tracing+"t(print)(t(1), t(2)); t([print])[t(0)](t(3));", "function\n1\n2\n1 2\n[function]\n0\n3\n3"),
		done(tracing+"class A { constructor(a, b) { print(a, b); } } const o = {A: A}; new o.A(t(1), t(2));", "1\n2\n1 2"),
	)
}

// P16.1: the texts of a Template and of what is printed are those at the end: what is done to a thing between is told.
func TestShownAtTheEnd(t *testing.T) {
	gives(t,
		done("const o = {a: 1}; print(`${o}${o.a = 2}${o}`);", "{a: 2}2{a: 2}"),
		done("const o = {a: 1}; print(o, o.a = 2, o);", "{a: 2} 2 {a: 2}"),
		done("let x = 1; print(x, x = 2, x);", "1 2 2"),
		done("const l = [1]; print([l, l.push(2), l]);", "[[1, 2], 2, [1, 2]]"),
		done("print(`a${\"b\"}`, `${[\"b\"]}`, `${print}`, `${undefined} ${null}`);", "ab [\"b\"] function undefined null"),
	)
}

// P16.1: what is read of a Name ahead of the second kid.
func TestAssignToName(t *testing.T) {
	gives(t,
		done("let x = 1; print(x = 5, x);", "5 5"),
		done("let x = 1; x += x = 5; print(x);", "6"),
		done("let x = 7; x -= (x = 100) && 2; print(x);", "5"),
		done("let x = 7; print(x *= 3, x %= 4, x -= 9);", "21 1 -8"),
		done(`let x = "a"; x += 1; x += null; print(x);`, "a1null"),
		done("function f(p) { p = p + 1; p += 1; return p; } print(f(1));", "3"),
		done("try { throw 1; } catch (e) { e += 1; print(e); e = null; print(e); }", "2\nnull"),
		done("for (let x of [1, 2]) { x *= 10; print(x); x = 0; }", "10\n20"),
		throws("let x = 1; x -= {};", "TypeError: number", ""),
		throws(tracing+"let x = null; x += t(1);", "TypeError: +", "1"),
		ends(api.EndInexact, "let x = 9007199254740991; x += 1;", ""),
		ends(api.EndInexact, "let x = 1; x %= 0;", ""),
	)
}

// P16.1: an Assign to a Member: its kid; its value, but for `=`; the second kid; what is made of both is set.
func TestAssignToMember(t *testing.T) {
	gives(t,
		done(tracing+"print(t({}).a = t(1));", "{}\n1\n1"),
		done(tracing+"const o = {a: 1}; print(t(o).a += t(2), o);", "{a: 1}\n2\n3 {a: 3}"),
		done("const o = {a: 1}; o.a += o.a = 5; print(o);", "{a: 6}"),
		done("const o = {a: 1}; print(o.a -= (o.a = 100) && 3, o);", "-2 {a: -2}"),
		done("class A {} class B extends A { m() {} } const b = new B(); A.x = 1; b.m.y = 2; print(A.x, b.m.y, b);", "1 2 {}"),
		done("print.x = 1; print(print.x, input.x, print);", "1 undefined function"),
		throws(tracing+"null.a = t(1);", "TypeError: no members", "1"),
		throws(tracing+"null.a += t(1);", "TypeError: no members", ""),
		throws(tracing+"(1).a = t(1);", "TypeError: no members", "1"),
		throws(tracing+"(1).a += t(1);", "TypeError: +", "1"),
		throws(tracing+`"ab".length += t(1);`, "TypeError: no members", "1"),
		throws(tracing+`"ab".length -= t(null);`, "TypeError: number", "null"),
		throws(tracing+"[].a = t(1);", "TypeError: no members", "1"),
		throws(tracing+"({}).a -= t(1);", "TypeError: number", "1"),
		ends(api.EndInexact, tracing+"const o = {a: 1}; o.a %= t(0);", "0"),
	)
}

// P16.1: an Assign to an Index: its kids; its value, but for `=`; the second kid; what is made of both is put.
func TestAssignToIndex(t *testing.T) {
	gives(t,
		done(tracing+"print(t([])[t(0)] = t(1));", "[]\n0\n1\n1"),
		done(tracing+"const l = [1]; print(t(l)[t(0)] += t(2), l);", "[1]\n0\n2\n3 [3]"),
		done("const l = [1]; l[0] += l[0] = 5; print(l);", "[6]"),
		done("const l = []; print(l[0] = l[l.push(4)] = 9, l);", "9 [9, 9]"),
		done(`const o = {}; o["a b"] = 1; o["a b"] *= 7; print(o["a b"], o);`, "7 {a b: 7}"),
		throws(tracing+"null[t(0)] = t(1);", "TypeError: index", "0\n1"),
		throws(tracing+"null[t(0)] += t(1);", "TypeError: no members", "0"),
		throws(tracing+"[][t(1)] = t(2);", "TypeError: index", "1\n2"),
		throws(tracing+"[][t(-1)] = t(2);", "TypeError: index", "-1\n2"),
		throws(tracing+"[][t(0)] += t(2);", "TypeError: +", "0\n2"),
		throws(tracing+"[][t(null)] += t(2);", "TypeError: index", "null"),
		throws(tracing+`"ab"[t(0)] = t(2);`, "TypeError: index", "0\n2"),
		throws(tracing+`"ab"[t(0)] += t(2);`, "TypeError: index", "0\n2"),
		throws(tracing+`[][t("a")] = t(2);`, "TypeError: no members", "a\n2"),
		ends(api.EndInexact, tracing+"const l = [1]; l[t(0)] %= t(0);", "0\n0"),
	)
}

// P16.1: what is this of a call, and what is called.
func TestCalls(t *testing.T) {
	gives(t,
		done("class A { m(x) { return [this, x]; } } const a = new A(); const o = {m: a.m, k: [a.m]}; print(a.m(1), o.m(2), o.k[0](3), o[\"m\"](4));", "[{}, 1] [{m: function, k: [function]}, 2] [[function], 3] [{m: function, k: [function]}, 4]"),
		done("class A { m() { return this; } } const m = new A().m; print(m(), (m)(), (m || 1)(), [m][0]() === m);", "undefined undefined undefined false"),
		done(`class A { m() { return this; } } const l = [new A().m]; print(l[0]() === l);`, "true"),
		done("function f(a, b) { return [a, b]; } print(f(), f(1), f(1, 2), f(1, 2, 3));", "[undefined, undefined] [1, undefined] [1, 2] [1, 2]"),
		done("print((() => {})(), (() => { return; })(), (() => null)(), ((a, b) => b)(1), (function_)());  function function_() { if (1) { { return 7; } } }", "undefined undefined null undefined 7"),
		done("const f = (n) => n < 2 ? n : f(n - 1) + f(n - 2); print(f(15));", "610"),
		done(tracing+"print(t({m: (x) => x}).m(t(5)), print === print, input === print);", "{m: function}\n5\n5 true false"),
		throws("(1)();", "TypeError: no function", ""),
		throws(tracing+"({}).m(t(1), t(2));", "TypeError: no function", "1\n2"),
		throws(tracing+"null.m(t(1));", "TypeError: no members", ""),
		throws(tracing+"[][t(null)](t(1));", "TypeError: index", "null"),
		throws(tracing+"class A {} A(t(1));", "TypeError: no function", "1"),
		throws(`"a"();`, "TypeError: no function", ""),
		throws("[]();", "TypeError: no function", ""),
		throws("({})();", "TypeError: no function", ""),
		throws("[].pop();", "TypeError: no function", ""),
	)
}

// P16.1: `push` of an array, and of what is none.
func TestPush(t *testing.T) {
	gives(t,
		done(tracing+"const l = [1]; print(l.push(), l.push(t(2)), l.push(t(3), t(l.push(4))), l);", "2\n3\n3\n1 2 5 [1, 2, 4, 3, 3]"),
		done("const l = []; print(l.push(l), l, l.push === undefined);", "1 [[[...]]] true"),
		done("const o = {push: (x) => [x]}; print(o.push(1), o[\"push\"](2));", "[1] [2]"),
		done("class A { push(x) { return [this, x]; } } print(new A().push(3));", "[{}, 3]"),
		done("let l = [1]; print(l.push(l = 5), l);", "2 5"),
		done("class A { push(x) { return [x, this]; } } class B extends A { m() { return super.push(7); } } const l = [new B().m]; print(l[0](), l.length);", "[7, [function]] 1"),
		done("function push(x) { return [x]; } const m = {push: push}; print(push(1), m.push(2), (push)(3));", "[1] [2] [3]"),
		throws(`[]["push"](1);`, "TypeError: no function", ""),
		throws(tracing+`"a".push(t(1));`, "TypeError: no function", "1"),
		throws("({}).push(1);", "TypeError: no function", ""),
		throws("null.push(1);", "TypeError: no members", ""),
		throws("const p = [].push; p(1);", "TypeError: no function", ""),
		throws("([].push)(1)(2);", "TypeError: no function", ""),
	)
}

// P16.1: operators, and what they throw.
func TestOperators(t *testing.T) {
	gives(t,
		done(`print(1 + "a", "a" + null, "a" + undefined + true, -(-3), ~5, !"", !{}, 7 % -3, -7 % 3, 1 << 33, -1 >>> 28, 5 & 3, 5 | 3, 5 ^ 3);`, "1a anull aundefinedtrue 3 -6 true false 1 -1 2 15 1 7 6"),
		done(`print(1 < 2, "a" < "b", "é" < "z", 2 >= 2, 1 === 1, 1 === "1", null === undefined, [] === [], print === print, "a" !== "a");`, "true true false true true false false false true false"),
		done(`class A {} print(typeof 1, typeof "", typeof true, typeof undefined, typeof null, typeof {}, typeof [], typeof print, typeof A, typeof (() => 1));`, "number string boolean undefined object object object function function function"),
		done(`class A { v = 1; m() {} } print("v" in new A(), "m" in new A(), "k" in new A(), "x" in A, "length" in [], "0" in [1], "a" in print);`, "true true false false true false false"),
		throws(`1 in {};`, "TypeError: in", ""),
		throws(tracing+`t(null) in t(1);`, "TypeError: in", "null\n1"),
		throws(tracing+`t("a") in t("abc");`, "TypeError: in", "a\nabc"),
		throws(`"a" in null;`, "TypeError: in", ""),
		throws("1 + null;", "TypeError: +", ""),
		throws("[] + \"a\";", "TypeError: +", ""),
		throws("-{};", "TypeError: number", ""),
		throws(tracing+"t(1) < t(\"a\");", "TypeError: order", "1\na"),
		throws("null.a;", "TypeError: no members", ""),
		throws("undefined[0];", "TypeError: no members", ""),
		throws("[][{}];", "TypeError: index", ""),
		ends(api.EndInexact, "print(1); 9007199254740991 + 1; print(2);", "1"),
		ends(api.EndInexact, "9007199254740991 * -2;", ""),
	)
}
