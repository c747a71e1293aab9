package check_test

import (
	"strings"
	"testing"
)

// params are those of which facts are asked.
const params = "enum E { A, B } interface I { k: \"i\"; z?: 1 } type U = {k: \"a\"; x: number} | {k: \"b\"; y?: string}; function over(x: number | string | null | undefined, y: string | null, z: 0 | 1 | \"\" | \"a\" | true, b: boolean, u: U, un: unknown, an: any, e: E, i: I | U, l: number[] | string, n: number, f: () => 1, d: {k: 1 | 2; m: string} | {k: 2; o: 1}, bb: boolean) { "

// knows holds statements within params against the type of the marked Name.
func knows(t *testing.T, rows ...[2]string) {
	t.Helper()
	for _, r := range rows {
		hasTypes(t, typed{"Name", params + r[0] + " }", r[1]})
	}
}

// conditions holds conditions against what they say of a Name: where they say yes, and where they say no.
func conditions(t *testing.T, rows ...[4]string) {
	t.Helper()
	for _, r := range rows {
		condition, name, yes, no := r[0], r[1], r[2], r[3]
		knows(t,
			[2]string{"if (" + condition + ") { print(@" + name + "); } else { print(1); }", yes},
			[2]string{"if (" + condition + ") {} else { print(@" + name + "); }", no},
			[2]string{"if (" + condition + ") { return; } print(@" + name + ");", no},
			[2]string{"if (" + condition + ") {} else { return; } print(@" + name + ");", yes},
			[2]string{"print(" + condition + " ? @" + name + " : 1);", yes},
			[2]string{"print(" + condition + " ? 1 : @" + name + ");", no},
			[2]string{"print((" + condition + ") && @" + name + ");", yes},
			[2]string{"print((" + condition + ") || @" + name + ");", no},
			[2]string{"while (" + condition + ") { print(@" + name + "); }", yes},
			[2]string{"while (" + condition + ") {} print(@" + name + ");", no},
			[2]string{"for (; " + condition + "; ) { print(@" + name + "); }", yes},
			[2]string{"for (; " + condition + "; print(@" + name + ")) {}", yes},
			[2]string{"for (; " + condition + "; ) {} print(@" + name + ");", no},
			// The other way round.
			[2]string{"if (!(" + condition + ")) { print(@" + name + "); }", no},
			[2]string{"if (!(" + condition + ")) {} else { print(@" + name + "); }", yes},
			[2]string{"if (!!(" + condition + ")) { print(@" + name + "); }", yes},
			[2]string{"if (bb && (" + condition + ")) { print(@" + name + "); }", yes},
			[2]string{"if ((" + condition + ") && bb) { print(@" + name + "); }", yes},
			[2]string{"if (bb || (" + condition + ")) {} else { print(@" + name + "); }", no},
			[2]string{"if (!(bb || !(" + condition + "))) { print(@" + name + "); }", yes},
		)
	}
}

const whole = "null | number | string | undefined"

// P12.1: typeof.
func TestKindFacts(t *testing.T) {
	conditions(t,
		[4]string{`typeof x === "string"`, "x", "string", "null | number | undefined"}, [4]string{`"number" === typeof x`, "x", "number", "null | string | undefined"}, [4]string{`typeof x !== "object"`, "x", "number | string | undefined", "null"},
		[4]string{`"undefined" !== typeof x`, "x", "null | number | string", "undefined"}, [4]string{`typeof un === "string"`, "un", "string", "unknown"}, [4]string{`typeof un === "boolean"`, "un", "false | true", "unknown"}, [4]string{`typeof un === "object"`, "un", "unknown", "unknown"},
		[4]string{`typeof an === "string"`, "an", "any", "any"}, [4]string{`typeof x === "none"`, "x", "never", whole}, [4]string{`typeof f === "function"`, "f", "() => 1", "never"}, [4]string{`typeof e === "number"`, "e", "E@", "E@"},
	)
	conditions(t, [4]string{`!z === "string"`, "z", `"" | "a" | 0 | 1 | true`, `"" | "a" | 0 | 1 | true`}, [4]string{`-z === "a"`, "z", `"" | "a" | 0 | 1 | true`, `"" | "a" | 0 | 1 | true`})
	// What is no such test says nothing.
	conditions(t, [4]string{"typeof x === y", "x", whole, whole}, [4]string{"typeof x === typeof y", "x", whole, whole}, [4]string{"typeof x === `string`", "x", whole, whole}, [4]string{`typeof x! === "string"`, "x", whole, whole}, [4]string{`(typeof x as any) === "string"`, "x", whole, whole}, [4]string{`typeof x < "string"`, "x", whole, whole})
}

// P12.1: a Name against a value.
func TestValueFacts(t *testing.T) {
	conditions(t,
		[4]string{"x === null", "x", "null", "number | string | undefined"}, [4]string{"null !== x", "x", "number | string | undefined", "null"}, [4]string{"x === undefined", "x", "undefined", "null | number | string"}, [4]string{"undefined === x", "x", "undefined", "null | number | string"},
		[4]string{"x === 1", "x", "1", whole}, [4]string{`"a" === x`, "x", `"a"`, whole}, [4]string{"x === -1", "x", "-1", whole}, [4]string{"z === 0", "z", "0", `"" | "a" | 1 | true`}, [4]string{"z !== true", "z", `"" | "a" | 0 | 1`, "true"}, [4]string{"z === false", "z", "never", `"" | "a" | 0 | 1 | true`},
		[4]string{`z === ""`, "z", `""`, `"a" | 0 | 1 | true`}, [4]string{"b === true", "b", "true", "false"}, [4]string{"b !== false", "b", "true", "false"}, [4]string{"e === E.A", "e", "E@.A", "E@"}, [4]string{"E.B !== e", "e", "E@", "E@.B"}, [4]string{"un === null", "un", "null", "unknown"}, [4]string{"an === null", "an", "any", "any"},
		[4]string{"u === null", "u", `{k: "a"; x: number} | {k: "b"; y?: string}`, `{k: "a"; x: number} | {k: "b"; y?: string}`}, [4]string{"u === 1", "u", "never", `{k: "a"; x: number} | {k: "b"; y?: string}`}, [4]string{"x === E.A", "x", "number | string", whole},
	)
	const space = "namespace N { export enum F { A, B } export const c = F.A; export const o = 1; } "
	hasTypes(t,
		typed{"Name", space + "function g(q: N.F) { if (q === N.F.A) { print(@q); } }", "F@.A"},
		// A Member that is none of an Enum is no such value, whatever its type.
		typed{"Name", space + "function g(q: N.F) { if (q === N.c) { print(@q); } }", "F@"}, typed{"Name", space + "function g(q: 1 | 2) { if (q === N.o) { print(@q); } }", "1 | 2"},
		typed{"Name", "enum E { A } function g(q: E | null) { if (q === E.Z) { print(@q); } }", "E@ | null"},
	)
	conditions(t, [4]string{"x === n", "x", whole, whole}, [4]string{"x === y", "x", whole, whole}, [4]string{"x === (1 as 1)", "x", whole, whole}, [4]string{"x === - -1", "x", whole, whole}, [4]string{"x === ~1", "x", whole, whole}, [4]string{"x === [][0]", "x", whole, whole}, [4]string{"x === `a`", "x", whole, whole}, [4]string{"x! === null", "x", whole, whole}, [4]string{"(x as any) === null", "x", whole, whole}, [4]string{"x < 1", "x", whole, whole}, [4]string{"x === (null as null)", "x", whole, whole})
}

// P12.1: a member against a value.
func TestFieldFacts(t *testing.T) {
	const a, c = `{k: "a"; x: number}`, `{k: "b"; y?: string}`
	conditions(t,
		[4]string{`u.k === "a"`, "u", a, c}, [4]string{`"a" !== u.k`, "u", c, a}, [4]string{`u.k === "z"`, "u", "never", a + " | " + c}, [4]string{`i.k === "i"`, "i", "I#", a + " | " + c}, [4]string{`i.k !== "b"`, "i", "I# | " + a, c}, [4]string{"d.k === 1", "d", "{k: 1 | 2; m: string}", "{k: 1 | 2; m: string} | {k: 2; o: 1}"}, [4]string{"d.k !== 2", "d", "{k: 1 | 2; m: string}", "{k: 1 | 2; m: string} | {k: 2; o: 1}"}, [4]string{"d.k === -1", "d", "never", "{k: 1 | 2; m: string} | {k: 2; o: 1}"}, [4]string{"an.k === 1", "an", "any", "any"},
	)
	conditions(t, [4]string{"u.k === y", "u", a + " | " + c, a + " | " + c}, [4]string{`u!.k === "a"`, "u", a + " | " + c, a + " | " + c}, [4]string{`u.k! === "a"`, "u", a + " | " + c, a + " | " + c}, [4]string{`u.k < "b"`, "u", a + " | " + c, a + " | " + c})
	hasTypes(t, typed{"Name", "enum E { A, B } function g(q: {t: E.A; a: 1} | {t: E.B}) { if (q.t === E.A) { print(@q); } }", "{a: 1; t: E@.A}"}, typed{"Name", "function g(q: {t: null; a: 1} | {t: 2}) { if (q.t === null) { print(@q); } }", "{a: 1; t: null}"})
	// Of a Member of a Member nothing is known.
	hasTypes(t, typed{"Name", "function g(q: {t: {k: 1}} | {t: {k: 2}}) { if (q.t.k === 1) { print(@q); } }", "{t: {k: 1}} | {t: {k: 2}}"})
}

// P12.1: in, and a Name alone.
func TestHasAndTruthFacts(t *testing.T) {
	const a, c = `{k: "a"; x: number}`, `{k: "b"; y?: string}`
	conditions(t,
		[4]string{`"x" in u`, "u", a, c}, [4]string{`"y" in u`, "u", c, a + " | " + c}, [4]string{`"k" in u`, "u", a + " | " + c, "never"}, [4]string{`"z" in i`, "i", "I#", "I# | " + a + " | " + c}, [4]string{`"q" in an`, "an", "any", "any"},
		[4]string{"x", "x", "number | string", whole}, [4]string{"z", "z", `"a" | 1 | true`, `"" | 0`}, [4]string{"b", "b", "true", "false"}, [4]string{"u", "u", a + " | " + c, "never"}, [4]string{"un", "un", "unknown", "unknown"}, [4]string{"y", "y", "string", "null | string"}, [4]string{"an", "an", "any", "any"}, [4]string{"f", "f", "() => 1", "never"}, [4]string{"e", "e", "E@", "E@"},
	)
	conditions(t, [4]string{"y in u", "u", a + " | " + c, a + " | " + c}, [4]string{"`x` in u", "u", a + " | " + c, a + " | " + c}, [4]string{`"x" in u!`, "u", a + " | " + c, a + " | " + c}, [4]string{"x!", "x", whole, whole}, [4]string{"(x as any)", "x", whole, whole}, [4]string{"-z", "z", `"" | "a" | 0 | 1 | true`, `"" | "a" | 0 | 1 | true`}, [4]string{"typeof z", "z", `"" | "a" | 0 | 1 | true`, `"" | "a" | 0 | 1 | true`}, [4]string{"f()", "x", whole, whole}, [4]string{"true", "x", whole, whole}, [4]string{"x ? true : false", "x", whole, whole}, [4]string{"u.k", "u", a + " | " + c, a + " | " + c})
}

// P12.1: conditions one within the other.
func TestConditionsWithin(t *testing.T) {
	knows(t,
		[2]string{`if (x !== null && x !== undefined) { print(@x); }`, "number | string"}, [2]string{`if (x !== null && x !== undefined) {} else { print(@x); }`, whole}, [2]string{`if (x === null || x === undefined) {} else { print(@x); }`, "number | string"}, [2]string{`if (x === null || x === undefined) { print(@x); }`, whole},
		[2]string{`if (!(x === null || typeof x === "string") && x !== undefined) { print(@x); }`, "number"}, [2]string{`if (x && typeof x === "number" && x !== 1) { print(@x); }`, "number"}, [2]string{`if ((x && y) && typeof x === "string") { print(@y); }`, "string"},
		[2]string{`if (x === null) {} else if (x === undefined) {} else { print(@x); }`, "number | string"}, [2]string{`if (x === null) {} else if (x === undefined) { print(@x); }`, "undefined"}, [2]string{`if (x) { if (typeof x === "string") { print(@x); } }`, "string"},
		[2]string{`print(x === null ? 1 : x === undefined ? 2 : @x);`, "number | string"}, [2]string{`print(x !== null && (x !== undefined && @x));`, "number | string"}, [2]string{`print(x === null || x === undefined || @x);`, "number | string"}, [2]string{`print(x === null || (x !== undefined && @x));`, "number | string"},
		[2]string{`print(!(x === null) && @x);`, "number | string | undefined"}, [2]string{`while (x) { if (x !== 1) { while (typeof x === "number") { print(@x); } } }`, "number"}, [2]string{`if (x && y) { print(@x); }`, "number | string"},
		// Of && that says no, of || that says yes, nothing but what both ways know.
		[2]string{`if (x === null && b) {} else { print(@x); }`, whole}, [2]string{`if (x !== null || b) { print(@x); }`, whole}, [2]string{`if (!(x === null && b)) { print(@x); }`, whole},
	)
	takes(t, `function g(a: {v: number} | null, b: {v: number} | null): number { return a && b ? a.v + b.v : a ? a.v : b ? b.v : 0; }`)
}

// P12.1: facts are joined behind &&, ||, Cond and If.
func TestJoined(t *testing.T) {
	knows(t,
		[2]string{"x === null && print(1); print(@x);", whole}, [2]string{"x = 1; b && (x = \"\"); print(@x);", "number | string"}, [2]string{"x = 1; b || (x = null); print(@x);", "null | number"}, [2]string{"x = 1; b && (y = null); print(@x);", "number"}, [2]string{"b && (x = 1); print(@x);", whole},
		[2]string{"x === null && (x = 1); print(@x);", "number | string | undefined"}, [2]string{"x !== null || (x = 1); print(@x);", "number | string | undefined"}, [2]string{"x || (x = 1); print(@x);", "number | string"}, [2]string{"u && (u = {k: \"b\"}); print(@u);", `{k: "b"; y?: string}`},
		[2]string{"b ? (x = 1) : (x = \"\"); print(@x);", "number | string"}, [2]string{"b ? (x = 1) : 2; print(@x);", whole}, [2]string{"x = null; b ? (x = 1) : 2; print(@x);", "null | number"}, [2]string{"x === null ? (x = 1) : 1; print(@x);", "number | string | undefined"}, [2]string{"x === null ? 1 : 2; print(@x);", whole},
		[2]string{"if (b) { x = 1; } else { x = \"\"; } print(@x);", "number | string"}, [2]string{"if (b) { x = 1; } print(@x);", whole}, [2]string{"if (x === null) { x = 1; } print(@x);", "number | string | undefined"}, [2]string{"if (b) { x = 1; } else if (n) { x = 2; } else { x = null; } print(@x);", "null | number"}, [2]string{"if (b) { x = 1; y = null; } else { y = \"\"; } print(@y);", "null | string"},
		[2]string{"if (typeof x === \"number\") {} else {} print(@x);", whole}, [2]string{"if (un === null) {} else {} print(@un);", "unknown"}, [2]string{"if (x === undefined) { x = null; } if (x === null) { x = 1; } print(@x);", "number | string"},
		// Within what goes on: a kid's facts are there for the next one.
		[2]string{"print((x = 1), @x);", "number"}, [2]string{"print([x = null, @x]);", "null"}, [2]string{"print({a: x = null, b: @x});", "null"}, [2]string{"print((x = 1) + (@x as number));", "number"}, [2]string{"print(@x, x = 1);", whole}, [2]string{"print(`${x = 1}${@x}`);", "number"}, [2]string{"print(l[x = 1], @x);", "number"}, [2]string{"y = (x = null) ? \"\" : \"\"; print(@x);", "null"}, [2]string{"if ((x = null) === 1) { print(@x); }", "null"}, [2]string{"if ((x = null) || b) { print(@x); }", "null"}, [2]string{"while ((x = 1) > 0) { print(@x); }", "number"},
		[2]string{"if (b && (x = 1)) { print(@x); }", whole}, [2]string{"if (x !== null && (x = null)) { print(@x); }", "never"},
		[2]string{"print((x = 1) && @x);", "number"}, [2]string{"throw [x = null, @x];", "null"},
	)
}

// P12.1: what an Assign and a Var make known.
func TestAssignedFacts(t *testing.T) {
	knows(t,
		[2]string{"x = 1; print(@x);", "number"}, [2]string{"x = null; print(@x);", "null"}, [2]string{"x = y; print(@x);", "null | string"}, [2]string{"x = an; print(@x);", whole}, [2]string{"n = an; print(@n);", "number"}, [2]string{"n = 1; print(@n);", "number"}, [2]string{"un = 1; print(@un);", "unknown"}, [2]string{"an = 1; print(@an);", "any"}, [2]string{"x = b; print(@x);", whole},
		[2]string{"x = \"\"; x += 1; print(@x);", "string"}, [2]string{"x = 1; x -= 1; print(@x);", "number"}, [2]string{"x = 1; x += \"\"; print(@x);", "string"}, [2]string{"z = 1; print(@z);", "1"}, [2]string{"u = {k: \"b\"}; print(@u);", `{k: "b"; y?: string}`}, [2]string{"l = []; print(@l);", "number[]"}, [2]string{"x = x = null; print(@x);", "null"},
		[2]string{"let v: number | string = 1; print(@v);", "number"}, [2]string{"const v: number | null = null; print(@v);", "null"}, [2]string{"let v: number | string = an; print(@v);", "number | string"}, [2]string{"let v: number | string = null; print(@v);", "number | string"}, [2]string{"let v = x; v = 1; print(@v);", "number"}, [2]string{"let v = x; print(@v);", whole}, [2]string{"const v = x; if (v === null) { return; } print(@v);", "number | string | undefined"}, [2]string{"let v: any = 1; print(@v);", "any"}, [2]string{"let v: unknown = 1; print(@v);", "unknown"},
		[2]string{"x = null; let v = x; print(@v);", "null"}, [2]string{"x = 1; const v: number | null = x; print(@v);", "number"},
		[2]string{"for (let q of [1 as 1 | null]) { q = null; print(@q); }", "null"}, [2]string{"for (const q of [1 as number | null]) { if (q) { print(@q); } }", "number"}, [2]string{"try {} catch (q) { if (q === 1) { print(@q); } }", "1"}, [2]string{"try {} catch (q) { q = 1; print(@q); }", "unknown"},
		[2]string{"for (let q: number | string = 1; ; ) { print(@q); }", "number"}, [2]string{"for (let q: number | string = 1; ; q = \"\") { print(@q); }", "number | string"},
		// Two of one name are two.
		[2]string{"x = 1; { let x: null | 2 = null; } print(@x);", "number"},
	)
	// Facts are kept of no other names.
	for _, r := range [][2]string{{"function q() {}", "() => any"}, {"class q {}", "class q#"}, {"enum q {}", "enum q#"}, {"namespace q {}", "namespace q#"}} {
		hasTypes(t, typed{"Name", r[0] + " if (!q) { print(@q); }", r[1]}, typed{"Name", r[0] + " if (typeof q === \"string\") { print(@q); }", r[1]}, typed{"Name", r[0] + " if (q === 1) { print(@q); }", r[1]}, typed{"Name", r[0] + " if (\"a\" in q) { print(@q); }", r[1]}, typed{"Name", r[0] + " if (q.a === 1) { print(@q); }", r[1]})
	}
	hasTypes(t, typed{"Name", "if (!print) { print(@input); }", "() => null | string"}, typed{"Name", "if (!input) { print(@input); }", "() => null | string"})
	hasTypes(t, typed{"Member", "function g(o: {a: 1 | null}) { if (o.a === 1) { print(@o.a); } }", "1 | null"}, typed{"Index", "function g(o: (1 | null)[]) { if (o[0] === 1) { print(@o[0]); } }", "1 | null"}, typed{"Member", "namespace N { export const c: 1 | null = 1; } print(@N.c);", "1 | null"})
}

// P12.1: loops.
func TestLoopFacts(t *testing.T) {
	for _, loop := range []string{"while (b) { % }", "for (; b; ) { % }", "for (const q of [1]) { % }", "while (true) { % break; }"} {
		in := func(s string) string { return strings.Replace(loop, "%", s, 1) }
		knows(t,
			[2]string{"x = 1; " + in("print(@x);"), "number"}, [2]string{"x = 1; " + in("print(@x); x = null;"), whole}, [2]string{"x = 1; " + in("x = null; print(@x);"), "null"}, [2]string{"x = 1; " + in("y = null; print(@x);"), "number"},
			[2]string{"x = 1; " + in("() => { x = null; }; print(@x);"), whole}, [2]string{"x = 1; " + in("{ if (b) { x += 1; } } print(@x);"), whole},
			// Behind it: what was at its beginning.
			[2]string{"x = 1; " + in(";") + " print(@x);", "number"}, [2]string{"x = 1; " + in("x = null;") + " print(@x);", whole}, [2]string{in("x = null;") + " print(@x);", whole}, [2]string{in("if (x === null) { return; }") + " print(@x);", whole}, [2]string{"x = 1; " + in("if (b) { return; } x = 1;") + " print(@x);", whole},
			[2]string{in("let x: 1 | null = null; x = 1;") + " print(@x);", whole}, [2]string{"x = 1; " + in("let x: 1 | null = null; x = 1;") + " print(@x);", "number"},
		)
	}
	knows(t,
		// The condition's no, if there is no Break of it.
		[2]string{"while (x === null) {} print(@x);", "number | string | undefined"}, [2]string{"while (x === null) { break; } print(@x);", whole}, [2]string{"for (; x === null; ) {} print(@x);", "number | string | undefined"}, [2]string{"for (; x === null; ) { if (b) { break; } } print(@x);", whole},
		[2]string{"while (x === null) { while (b) { break; } } print(@x);", "number | string | undefined"}, [2]string{"while (x === null) { for (const q of [1]) { break; } () => { while (b) { break; } }; } print(@x);", "number | string | undefined"}, [2]string{"while (x === null) { continue; } print(@x);", "number | string | undefined"}, [2]string{"while (x === null) { x = 1; } print(@x);", "number | string | undefined"},
		[2]string{"while (x === null) { return; } print(@x);", "number | string | undefined"}, [2]string{"while (x === null) { { break; print(1); } } print(@x);", whole}, [2]string{"while (x === null) { return; break; } print(@x);", whole},
		[2]string{"x = null; while (x === null) { x = 1; } print(@x);", "number | string | undefined"},
		// What is assigned to ahead of it and behind it is not beneath it.
		[2]string{"x = 1; while (b) { print(@x); } x = null;", "number"}, [2]string{"x = 1; for (; b; ) {} print(@x); x = null;", "number"}, [2]string{"x = 1; for (const q of [1]) { print(@x); } while (b) { x = null; }", "number"},
		// Just the facts of its beginning, not what going through the condition leaves.
		[2]string{"for (; (x = null) === b; ) {} print(@x);", whole}, [2]string{"x = 1; for (; b && (x = null); ) {} print(@x);", whole},
		[2]string{"while ((x = null) === b) {} print(@x);", whole}, [2]string{"x = 1; while (b && (x = null)) {} print(@x);", whole}, [2]string{"while (x !== null && y !== null) {} print(@y);", "null | string"},
		// A For begins behind its Var; its third kid stands where the condition says yes.
		[2]string{"for (let q: number | null = 1; q !== null; q = null) { print(@q); }", "number"}, [2]string{"for (let q: number | string | null = 1; q; q = null) { print(@q); }", "number | string"}, [2]string{"for (let q: number | null = 1; ; print(@q)) {}", "number"}, [2]string{"for (let q: number | null = 1; b; print(@q)) { q = null; }", "null | number"}, [2]string{"for (let q = (x = 1); b; ) { print(@x); }", whole}, [2]string{"for (; b; x = 1) { print(@x); }", whole}, [2]string{"for (; b; ) { x = 1; } print(@x);", whole},
		[2]string{"for (; x; print(@x)) {}", "number | string"}, [2]string{"for (; x; print(@x)) { x = null; }", "number | string"}, [2]string{"for (; x; x = null) { print(@x); }", "number | string"}, [2]string{"for (; ; ) { x = 1; break; } print(@x);", whole},
		// A ForOf behind its first kid.
		[2]string{"for (const q of [x = 1]) { print(@x); }", whole}, [2]string{"x = 1; for (const q of [@x]) { x = null; }", "number"}, [2]string{"if (typeof l === \"string\") { for (const q of @l) {} }", "string"},
	)
}

// P12.1: functions.
func TestFunctionFacts(t *testing.T) {
	for _, function := range []string{"() => { % };", "() => () => { % };", "function q() { % }", "class Q { m() { % } }", "class Q { constructor() { % } }", "class Q { v = () => { % }; }"} {
		in := func(s string) string { return strings.Replace(function, "%", s, 1) }
		knows(t,
			// Of what nothing in the program assigns to.
			[2]string{"if (x === null) { return; } " + in("print(@x);"), "number | string | undefined"}, [2]string{"if (x === null) { return; } " + in("print(@x);") + " x = 1;", whole}, [2]string{"x = 1; " + in("print(@x);"), whole}, [2]string{"const v: number | null = 1; " + in("print(@v);"), "number"}, [2]string{"let v: number | null = 1; " + in("print(@v);"), "number"}, [2]string{"let v: number | null = 1; " + in("print(@v);") + " v = 2;", "null | number"},
			[2]string{"let v: number | null = 1; " + in("print(@v); v = null;"), "null | number"}, [2]string{"let v: number | null = 1; " + in("v = null; print(@v);"), "null"}, [2]string{in("if (x === null) { print(@x); }"), "null"},
			// Its own facts are not seen behind it.
			[2]string{in("if (x === null) { throw 1; }") + " print(@x);", whole}, [2]string{"let v: number | null = 1; " + in("v = null;") + " print(@v);", "number"}, [2]string{"if (y) { " + in("if (x === null) { return; }") + " print(@x); }", whole},
		)
	}
	knows(t, [2]string{"if (x === null) { return; } class Q { v = @x; }", "number | string | undefined"}, [2]string{"x = 1; class Q { v = @x; }", whole}, [2]string{"if (x === null) { return; } () => @x;", "number | string | undefined"}, [2]string{"x === null || (() => @x);", "number | string | undefined"}, [2]string{"class Q { v = x === null ? 1 : @x; }", "number | string | undefined"}, [2]string{"class Q { v = (x = 1); } print(@x);", whole})
	// An Enum's values stand with the facts at it, each of them.
	knows(t, [2]string{"if (x === null) { return; } enum Q { A = 1, B = @x }", "number | string | undefined"}, [2]string{"enum Q { A = x = 1, B = @x }", whole}, [2]string{"x = null; enum Q { A = x = 1 } print(@x);", "null"})
}

// P12.1: Try.
func TestTryFacts(t *testing.T) {
	knows(t,
		[2]string{"x = 1; try { print(@x); } catch (q) {}", "number"}, [2]string{"x = 1; try { x = null; print(@x); } catch (q) {}", "null"}, [2]string{"x = 1; try {} catch (q) { print(@x); }", "number"}, [2]string{"x = 1; try { x = null; } catch (q) { print(@x); }", whole}, [2]string{"x = 1; try {} catch (q) { x = null; } finally { print(@x); }", whole}, [2]string{"x = 1; try {} catch (q) { x = null; print(@x); }", "null"}, [2]string{"x = 1; try {} finally { print(@x); }", "number"}, [2]string{"x = 1; try {} finally { x = null; } print(@x);", whole},
		[2]string{"x = 1; try { y = null; } catch (q) {} print(@x);", "number"}, [2]string{"x = 1; try { x = 1; } catch (q) {} print(@x);", whole}, [2]string{"try { x = 1; } finally {} print(@x);", whole}, [2]string{"try { if (x === null) { return; } } catch (q) {} print(@x);", whole}, [2]string{"if (x === null) { return; } try {} catch (q) {} print(@x);", "number | string | undefined"}, [2]string{"try {} finally { if (x === null) { return; } } print(@x);", whole}, [2]string{"x = 1; try { () => { x = null; }; } catch (q) {} print(@x);", whole},
		[2]string{"x = 1; try { let x: 1 | null = null; x = 1; } catch (q) { print(@x); }", "number"},
	)
}

// P12.1: a Namespace's statements stand in the flow.
func TestNamespaceFacts(t *testing.T) {
	knows(t,
		[2]string{"x = 1; namespace M { print(@x); }", "number"}, [2]string{"namespace M { x = 1; } print(@x);", "number"}, [2]string{"if (x === null) { namespace M { throw 1; } } print(@x);", "number | string | undefined"}, [2]string{"namespace M { if (x === null) { throw 1; } } print(@x);", "number | string | undefined"}, [2]string{"namespace M { export const c: number | null = 1; print(@c); }", "number"}, [2]string{"namespace M { export namespace L { x = 1; } print(@x); }", "number"}, [2]string{"namespace M { export class C { m() { x = 1; } } } print(@x);", whole},
	)
}
