package check_test

import (
	"strings"
	"testing"
)

// vars declares names of all sorts of types, by which expressions are made.
const vars = `enum E { A, B } class K { k = 1; } namespace N { export const c = 1; }
function over(n: number, s: string, b: boolean, u: undefined, nu: null, v: void, an: any, un: unknown, ne: never, ns: number | string, sn: string | null, l: number[], o: {k: 1; p?: string}, f: (x: number) => string, e: E, c: K, one: 1, t: "a", on: {k: 1} | null, lu: number[] | string, bu: number[] | null) { `

// of is rows of expressions and their types, within vars; each expression is the argument of print.
func of(t *testing.T, word string, rows ...string) {
	t.Helper()
	for _, row := range rows {
		text, want, ok := strings.Cut(row, " :: ")
		if !ok {
			t.Fatal(row)
		}
		hasTypes(t, typed{word, vars + "print(@" + text + "); }", want})
	}
}

// fine holds expressions within vars that do not offend.
func fine(t *testing.T, l ...string) {
	t.Helper()
	for _, text := range l {
		takes(t, vars+"print("+text+"); }")
	}
}

// wrong holds expressions within vars in which the marked one offends.
func wrong(t *testing.T, word string, l ...string) {
	t.Helper()
	for _, text := range l {
		refuses(t, offence{word, vars + "print(" + text + "); }"})
	}
}

// P12.1: the expressions without kids.
func TestPlain(t *testing.T) {
	of(t, "Num", "0 :: 0", "9007199254740991 :: 9007199254740991")
	of(t, "Str", `"a" :: "a"`, `'b"' :: "b\""`)
	of(t, "Template", "`a` :: string", "`a${n}b` :: string", "`${un}${f}` :: string")
	of(t, "True", "true :: true")
	of(t, "False", "false :: false")
	of(t, "Null", "null :: null")
	of(t, "Undefined", "undefined :: undefined")
	of(t, "Name", "n :: number", "an :: any", "over :: (number, string, false | true, undefined, null, void, any, unknown, never, number | string, null | string, number[], {k: 1; p?: string}, (number) => string, E@, K#, 1, \"a\", null | {k: 1}, number[] | string, null | number[]) => any",
		"E :: enum E#", "K :: class K#", "N :: namespace N#", "print :: () => undefined", "input :: () => null | string")
	hasTypes(t,
		typed{"Str", "print(@`ab`);", `"ab"`},
		typed{"This", "class C<T, U> { m() { print(@this); } }", "C#<T', U'>"},
		typed{"This", "class C { x = @this; }", "C#"},
		typed{"This", "class C { constructor() { (() => @this)(); } }", "C#"},
		typed{"This", "class C { m() { class D<T> { x = () => @this; } } }", "D#<T'>"},
		typed{"Name", "try {} catch (e) { print(@e); }", "unknown"},
	)
}

// P12.1: a Template's pieces are Strs, too.
func TestPieces(t *testing.T) {
	x := read(t, "print(`a${1}b${2}`);")
	c, _ := agrees(t, "pieces", x)
	got := strings.Join(c.Types, ",")
	if want := `,,undefined,() => undefined,,,string,"a",1,"b",2,""`; got != want {
		t.Errorf("%s, not %s", got, want)
	}
}

// P12.1: Names of Vars, ahead of and behind what stands beneath them, with and without written types.
func TestVarNames(t *testing.T) {
	hasTypes(t,
		typed{"Name", "let x = 1; print(@x);", "number"}, typed{"Name", "const x = 1; print(@x);", "1"},
		typed{"Name", "let x: 1 | 2 = 1; print(@x);", "1"}, typed{"Name", "const x: any = 1; print(@x);", "any"},
		typed{"Name", `let x = "a"; print(@x);`, "string"}, typed{"Name", `const x = "a"; print(@x);`, `"a"`},
		typed{"Name", "let x = true; print(@x);", "false | true"}, typed{"Name", "const x = true; print(@x);", "true"},
		typed{"Name", "let x = null; print(@x);", "null"}, typed{"Name", "const x = undefined; print(@x);", "undefined"},
		typed{"Name", "const x = [1]; print(@x);", "number[]"}, typed{"Name", "const x = {a: 1, b: [true]}; print(@x);", "{a: number; b: (false | true)[]}"},
		typed{"Name", "let x = {a: {b: 1}}; print(@x);", "{a: {b: number}}"},
		typed{"Name", "const x = 1 as 1 | {a: 1}; print(@x);", "1 | {a: 1}"}, typed{"Name", "let x = 1 as 1 | {a: 1}; print(@x);", "number | {a: number}"},
		typed{"Name", "const x = () => 1; print(@x);", "() => number"},
		typed{"Name", "enum E { A } let x = E.A; print(@x);", "E@"}, typed{"Name", "enum E { A } const x = E.A; print(@x);", "E@.A"},
		// Ahead of it, within it.
		typed{"Name", "function f() { print(@x); } let x = 1;", "any"}, typed{"Name", "function f() { print(@x); } const x: 1 = 1;", "1"},
		typed{"Name", "const x = () => print(@x);", "any"}, typed{"Name", "const x: () => any = () => print(@x);", "() => any"},
		typed{"Name", "class C { m() { print(@x); } } let x = 1;", "any"},
		typed{"Name", "let x = 1; function f() { print(@x); }", "number"},
		typed{"Name", "{ function f() { print(@x); } } const x = [1]; ", "any"},
		typed{"Name", "for (let x = 1; @x; ) {}", "number"}, typed{"Name", "for (let x = 1; ; @x) {}", "number"},
		typed{"Name", "const x = (() => { const y = 1; return () => print(@y); })();", "1"},
		// Of exports, by the number of the Member.
		typed{"Member", "namespace N { export const c = 1; } print(@N.c);", "1"}, typed{"Member", "function f() { print(@N.c); } namespace N { export const c = 1; }", "any"},
		typed{"Member", "function f() { print(@N.c); } namespace N { export const c: 1 | 2 = 1; }", "1 | 2"},
		typed{"Member", "namespace N { export const c = () => print(@N.c); }", "any"}, typed{"Member", "namespace N { export const c = 1; print(() => @N.c); }", "1"},
		typed{"Member", "namespace N { export const c: 1 | 2 = 1; } print(@N.c);", "1 | 2"},
	)
}

// P12.1: Names of Funcs, Params and ForOfs.
func TestOtherNames(t *testing.T) {
	hasTypes(t,
		typed{"Name", "function f(a: number, b?: string): 1 { return 1; } print(@f);", "(number, (string | undefined)?) => 1"},
		typed{"Name", "print(@f); function f() {}", "() => any"},
		typed{"Name", "function f<T, U>(a: T, b: U[]): {t: T} { return {t: a}; } print(@f);", "(any, any[]) => {t: any}"},
		typed{"Name", "function f<T>(a: T) { const g = <U>(x: U, y: T) => x; print(@g); }", "(any, T') => any"},
		typed{"Name", "function f<T>(a: T | number) {} print(@f);", "(any) => any"},
		typed{"Name", "function f(a, b?) { print(@a); }", "any"}, typed{"Name", "function f(a, b?) { print(@b); }", "any"},
		typed{"Name", "class C { constructor(public a: 1, b?: 2) { print(@b); } }", "2 | undefined"},
		typed{"Name", "for (const x of [1]) { print(@x); }", "number"}, typed{"Name", `for (const x of "ab") { print(@x); }`, "string"},
		typed{"Name", "function f(s: string) { for (let x of s) { print(@x); } }", "string"}, typed{"Name", "for (const x of 1 as any) { print(@x); }", "any"},
		typed{"Name", "function f(l: 1[] | string | (2 | 3)[]) { for (const x of l) { print(@x); } }", "1 | 2 | 3 | string"},
		typed{"Name", "for (const x of []) { print(@x); }", "never"},
		typed{"Name", "for (const x of 1) { print(@x); }", "any"}, typed{"Name", "function f(l: 1[] | null) { for (const x of l) { print(@x); } }", "any"},
	)
	for _, text := range []string{"1", "n", "null", "o", "f", "e", "K", "E", "N", "un", "ne", "v", "bu", "true", "ns", "on"} {
		words := map[string]string{"1": "Num", "null": "Null", "true": "True"}
		word, ok := words[text]
		if !ok {
			word = "Name"
		}
		refuses(t, offence{word, vars + "for (const x of @" + text + ") {} }"})
	}
	takes(t, vars+"for (const x of l) {} for (const x of lu) {} for (const x of an) {} for (const x of t) {} }")
}

// P12.1: Arrays and Objects.
func TestArraysAndObjects(t *testing.T) {
	of(t, "Array", "[] :: never[]", "[1, 2] :: number[]", `[1, "a", null] :: (null | number | string)[]`, "[[1], []] :: (never[] | number[])[]", "[true] :: (false | true)[]", "[{a: 1}, {a: 2}] :: {a: number}[]", "[an, 1] :: any[]", "[E.A, E.B] :: E@[]", "[un, 1] :: unknown[]", "[() => 1] :: (() => number)[]", "[ne] :: never[]")
	of(t, "Object", "{} :: {}", `{b: 1, a: "x"} :: {a: "x"; b: 1}`, "{n, k: {a: null}} :: {k: {a: null}; n: number}", "{a: 1, a: 2, b: 3} :: {a: 1; b: 3}")
	wrong(t, "Prop", "{a: 1, @a: 2}", "{a: 1, b: 2, @a: 1, b: 3}", "{n: 1, @n}")
	// What does not count is looked at all the same.
	wrong(t, "Binary", `{a: @1 + {}, a: 1}`)
	hasTypes(t, typed{"Binary", "print({a: 1, a: @1 + {}});", "any"}, typed{"Binary", "print({a: 1, a: @1 + 2});", "number"})
}

// P12.1: Arrows that answer an expression, a Block, nothing.
func TestArrows(t *testing.T) {
	of(t, "Arrow",
		"() => 1 :: () => number", "() => null :: () => null", "(a, b: number, c?: string) => a :: (any, number, (string | undefined)?) => any",
		"() => {} :: () => void", "() => { return; } :: () => void", "() => { return 1; } :: () => number", "() => { return undefined; } :: () => undefined",
		`() => { if (b) { return 1; } return "a"; } :: () => number | string`,
		"() => { if (b) { return 1; } } :: () => number | undefined", "() => { if (b) { return 1; } return; } :: () => number | undefined",
		"() => { if (b) { return; } return true; } :: () => false | true | undefined",
		"() => { throw 1; } :: () => void", "() => { if (b) { return 1; } throw 1; } :: () => number", "() => { while (true) {} } :: () => void",
		`() => { return 1; return "a"; } :: () => number | string`, "() => { return 1; return; } :: () => number | undefined",
		"() => { return {a: 1}; } :: () => {a: number}",
		// Returns in functions within it are not its.
		`() => { function g() { return "a"; } return 1; } :: () => number`, `() => { const g = () => { return "a"; }; return 1; } :: () => number`,
		`() => { class C { m() { return "a"; } constructor() { return; } x = () => { return 1; }; } } :: () => void`,
		`() => { const g = () => "a"; } :: () => void`, "() => () => 1 :: () => () => number",
		"() => { while (b) { return 1; } return 2; } :: () => number", "() => { try { return 1; } catch (e) { return e; } } :: () => unknown",
		"() => { { { return E.A; } } } :: () => E@",
		"() => an :: () => any", "() => ({a: [1]}) :: () => {a: number[]}", "() => print(1) :: () => undefined",
		"<T>(x: T) => x :: (any) => any", "<T, U>(x: T[], y: (z: U) => T) => { return {x, y}; } :: (any[], (any) => any) => {x: any[]; y: (any) => any}",
		"<T>(x: T | 1) => x :: (any) => any",
	)
	takes(t, "const f: (x: number) => void = (x) => {};", "const f: () => void = () => { throw 1; };")
	refuses(t, offence{"Arrow", "const f: () => number = @() => { throw 1; };"})
}

// P12.1: Unary.
func TestUnary(t *testing.T) {
	of(t, "Unary", "!n :: false | true", "!un :: false | true", "typeof un :: string", "typeof n :: string", "-n :: number", "~n :: number", "-1 :: -1", "-0 :: 0", "~1 :: number", "-one :: -1", "-e :: number", "-an :: number", "-s :: number", "~un :: number", "-ne :: number", "-(1 as 1 | 2) :: number")
	of(t, "Unary^", "- -1 :: 1")
	fine(t, "-n", "~n", "-an", "~an", "-one", "-e", "-E.A", "-ne", "~ne", "!un", "!v", "typeof un", "- - -1")
	wrong(t, "Name", "-@s", "~@s", "-@b", "-@u", "-@nu", "-@v", "-@un", "-@ns", "-@l", "-@o", "-@f", "-@E", "~@K", "~@N", "-@c", "~@t")
	wrong(t, "Str", `-@"1"`, `~@""`)
}

// P12.1: the Binaries that choose.
func TestChoices(t *testing.T) {
	of(t, "Binary",
		"n && s :: number | string", "one && s :: string", "nu && s :: null | string", "u && s :: string | undefined", "false && n :: false | number", "b && n :: false | number", "on && 1 :: 1 | null", "o && 1 :: 1", "an && 1 :: any", "un && 1 :: unknown", "0 && s :: 0 | string", `"" && n :: "" | number`, `t && n :: number`, "ne && 1 :: 1", "v && 1 :: 1 | void", "sn && 1 :: 1 | null | string", "l && 1 :: 1", "f && 1 :: 1", "c && 1 :: 1", "e && 1 :: 1 | E@",
		"n || s :: number | string", "one || s :: 1 | string", "nu || s :: string", "u || s :: string", "b || n :: number | true", "on || 1 :: 1 | {k: 1}", "o || 1 :: 1 | {k: 1; p?: string}", "an || 1 :: any", "un || 1 :: unknown", "0 || s :: string", `"" || n :: number`, "sn || n :: number | string", "v || 1 :: 1", "null || undefined :: undefined", "ne || 1 :: 1",
	)
	fine(t, "n && s", "un || un", "v && v", "f || K")
}

// P12.1: the Binaries that compare and look.
func TestComparisons(t *testing.T) {
	of(t, "Binary", "n === s :: false | true", "n !== un :: false | true", "n < 1 :: false | true", "s >= n :: false | true", `"k" in o :: false | true`, "n in n :: false | true", "un < 1 :: false | true")
	fine(t, "n === s", "o !== 1", "un === f", "n < 1", "n <= one", `s > "a"`, "t >= s", "e < 1", `e > "a"`, "an < n", "an < s", "n < an", "an < an", "e <= e", "ne < 1", "ne > s", `"a" in o`, "s in c", "t in an", "an in o", `"a" in {}`, "e in o", "ne in o")
	wrong(t, "Binary", "@n < s", `@1 < "a"`, "@ns < 1", "@ns < ns", "@b < b", "@u < 1", "@nu >= 1", "@un < un", "@an < un", "@l > l", "@o <= o", "@f < f", "@s < nu", "@E < 1")
	wrong(t, "Name", "@n in o", "@un in o", "@u in o", "@ns in o", "@b in o", "s in @n", "s in @s", "s in @un", "s in @l", "s in @f", "s in @on", "s in @E", "s in @K", "s in @N", "s in @nu", "s in @ne", "@n in n", "@n in s")
	wrong(t, "Num", `@1 in o`)
	// A union has no Pieces, though its parts have.
	refuses(t, offence{"Name", `function g(x: {a: 1} | {b: 2}) { print("a" in @x); }`})
}

// P12.1: sums.
func TestSums(t *testing.T) {
	of(t, "Binary",
		"1 + 2 :: number", "n + one :: number", `s + "a" :: string`, "n + s :: string", "s + n :: string", "s + b :: string", "nu + s :: string", "s + u :: string", "ns + s :: string", "t + true :: string", "an + n :: any", "un + an :: any", "o + an :: any", "an + an :: any", "e + 1 :: number", "e + s :: string", "e + e :: number", "e + b :: string", "ne + 1 :: number", "ne + s :: string", "sn + s :: string", "n + b :: any", "o + s :: any", "un + s :: any", "ns + n :: any", "ne + b :: string",
	)
	fine(t, "n + n", "s + s", "n + s", "s + null", "undefined + s", "b + s", "an + o", "an + un", "e + e", "ns + s", `"a" + ns`, "sn + s", "`a` + 1")
	wrong(t, "Binary", "@n + b", "@n + nu", "@u + n", "@o + s", "@s + l", "@s + un", "@un + un", "@ns + ns", "@ns + n", "@b + b", "@s + v", "@f + s", "@c + s", "@E + s", "@nu + nu", "@s + on")
}

// P12.1: the other Binaries reckon with numbers.
func TestReckonings(t *testing.T) {
	for _, sign := range []string{"-", "*", "%", "<<", ">>", ">>>", "&", "|", "^"} {
		of(t, "Binary", "n "+sign+" 1 :: number", "an "+sign+" an :: number", "s "+sign+" b :: number", "1 "+sign+" 2 :: number", "e "+sign+" ne :: number")
		fine(t, "n "+sign+" n", "an "+sign+" n", "e "+sign+" one", "ne "+sign+" n")
		wrong(t, "Name", "@s "+sign+" n", "n "+sign+" @s", "@s "+sign+" b", "n "+sign+" @un", "@u "+sign+" n", "n "+sign+" @ns", "@l "+sign+" n", "n "+sign+" @o")
	}
}

// P12.1: Cond, As, Bang.
func TestCondAsBang(t *testing.T) {
	of(t, "Cond", "b ? 1 : 2 :: 1 | 2", `b ? 1 : "a" :: "a" | 1`, "b ? n : 1 :: number", "b ? an : 1 :: any", "un ? null : undefined :: null | undefined", "b ? ne : 1 :: 1")
	of(t, "As", "n as any :: any", "an as number :: number", "n as 1 :: 1", "one as number :: number", "ns as string :: string", "s as number :: number", "un as string :: string", "o as {} :: {}", "l as any[] :: any[]", "n as Nope :: any")
	fine(t, "n as any", "an as never as any", "n as 1", "1 as number", "ns as string", "un as K", "n as unknown", "c as {}", "{} as {a: 1}", "nu as string | null", "e as number", "n as E", "n as any as E", "v as undefined", "u as void", "ne as number", "l as 1[]", "f as () => string")
	wrong(t, "As", "@n as string", "@s as number", "@n as null", "@o as string", "@nu as undefined", "@ns as null", "@{a: 1} as {a: string}", "@b as E", "@1 as E.A", "@[1] as string[]", "@f as number", "@K as K", "@on as number", "@1 as 2")
	of(t, "Bang", "u! :: never", "nu! :: never", "v! :: never", "sn! :: string", "on! :: {k: 1}", "n! :: number", "an! :: any", "un! :: unknown", "ne! :: never", "(1 as 1 | undefined | void | null | 2)! :: 1 | 2", "f! :: (number) => string", "o.p! :: string", "e! :: E@")
	fine(t, "u!", "n!", "un!", "v!")
}

// P12.1: Members.
func TestMember(t *testing.T) {
	of(t, "Member",
		"an.x :: any", "s.length :: number", "t.length :: number", "l.length :: number", "l.push :: (number) => number", "lu.length :: number", "o.k :: 1", "o.p :: string | undefined", "c.k :: any", "E.A :: E@.A", "E.B :: E@.B", "N.c :: 1",
		"n.x :: any", "s.x :: any", "l.x :: any", "o.x :: any", "c.x :: any", "E.C :: any", "N.d :: any", "on.k :: any", "un.x :: any", "ne.x :: any", "lu.push :: any", "K.k :: any", "f.x :: any", "e.A :: any", "[].push :: (never) => number",
	)
	fine(t, "an.x.y.z", "s.length", "lu.length", "o.k", "o.p", "c.k", "E.A", "N.c", "`a`.length", "[1].push", "(b ? o : c).k", "(b ? {k: 1} : {k: \"a\", z: 1}).k")
	wrong(t, "Member", "@n.x", "@s.push", "@l.pop", "@lu.push", "@o.x", "@c.x", "@E.C", "@N.d", "@on.k", "@u.x", "@nu.x", "@v.x", "@un.x", "@ne.x", "@b.length", "@f.length", "@K.k", "@e.A", "@one.length", "@(b ? o : {}).k", "@(b ? s : l).push", "@bu.length")
	hasTypes(t,
		typed{"Member", "function g(x: {a: 1; b?: 2} | {a: string; b: 3}) { print(@x.a); }", "1 | string"},
		typed{"Member", "function g(x: {a: 1; b?: 2} | {a: string; b: 3}) { print(@x.b); }", "2 | 3 | undefined"},
		typed{"Member", "interface I { a?: () => 1 } function g(x: I) { print(@x.a); }", "(() => 1) | undefined"},
	)
	// Exports that are values, and what is none.
	const space = "namespace M { const hidden = 1; export const a = [1]; export function f<T>(x: T): T { return x; } export class C {} export enum E { A } export namespace O { export const z: 1 | 2 = 1; } export interface I {} export type T = 1; } print("
	hasTypes(t,
		typed{"Member", space + "@M.a);", "number[]"}, typed{"Member", space + "@M.f);", "(any) => any"}, typed{"Member", space + "@M.C);", "class C#"}, typed{"Member", space + "@M.E);", "enum E#"}, typed{"Member", space + "@M.O);", "namespace O#"},
		typed{"Member^", space + "@M.E.A);", "E@.A"}, typed{"Member^", space + "@M.O.z);", "1 | 2"},
	)
	refuses(t, offence{"Member", "namespace M { ; { const a = 1; } for (const b of [1]) {} } print(@M.a);"}, offence{"Member", "namespace M { ; { const a = 1; } for (const b of [1]) {} } print(@M.b);"})
	refuses(t, offence{"Member", space + "@M.hidden);"}, offence{"Member", space + "@M.I);"}, offence{"Member", space + "@M.T);"}, offence{"Member", space + "@M.none);"})
}

// P12.1: Indices.
func TestIndex(t *testing.T) {
	of(t, "Index", "l[0] :: number", "s[n] :: string", "t[0] :: string", "lu[0] :: number | string", "an[0] :: any", "an[s] :: any", `l["a"] :: number`, "n[0] :: any", "bu[0] :: any", "o[0] :: any", "[][0] :: never", "E[0] :: any", "un[0] :: any", "ne[0] :: any")
	fine(t, "l[0]", "l[e]", "l[an]", "lu[n]", "s[0]", "an[s]", "an[un]", "an[null][o]", "[[1]][0][0]", "l[ne]")
	wrong(t, "Index", "@n[0]", "@o[0]", "@bu[0]", "@nu[0]", "@f[0]", "@E[0]", "@c[0]", "@un[0]", "@ne[0]", "@K[0]", "@n[s]", "@o[s]")
	wrong(t, "Name", "l[@s]", "s[@un]", "lu[@ns]", "t[@u]", "l[@b]")
	refuses(t, offence{"Index", "const enum E { A } print(@E[0]);"}, offence{"Index", `enum E { A } print(@E["A"]);`})
}

// P12.1: what offended already, as a kid, makes nothing else offend.
func TestOffendedKids(t *testing.T) {
	for _, text := range []string{"-@n.x", "~@n.x", "[@n.x]", "{a: @n.x}", "@n.x + o", "o + @n.x", "@n.x < s", "1 >= @n.x", "@n.x - 1", "1 * @n.x", "s in @n.x", "@n.x in o", "(@n.x).y", "(@n.x)[o]", "(@n.x)(1)", "l[@n.x]", "(@n.x)!", "@n.x as string", "b ? @n.x : 1", "@n.x && 1", "1 || @n.x", "() => @n.x", "`${@n.x}`", "f(@n.x)"} {
		x := vars + "print(" + strings.Replace(text, "@", "", 1) + "); }"
		tree := read(t, x)
		if c, why := agrees(t, x, tree); len(why) != 1 || tree.Nodes[c.Node].Text != "x" {
			t.Errorf("%s: %v", text, why)
		}
	}
}

// P12.1: Const Enums in each place.
func TestConstEnums(t *testing.T) {
	const head = "const enum E { A, B } "
	takes(t, head+"print(E.A, -E.B, [E.A], E.A === E.B);", head+"let x: E = E.A; let y: E.B = E.B;", head+"function f(E: number) { print(E); }", head+"let x = {E: 1}; print(x.E);", "enum E { A } print(E, [E], {E}, () => E);")
	for _, text := range []string{"print(@E);", "let x = @E;", "[@E];", "print({a: @E});", "@E;", "print(() => @E);", "-@E;", "@E === 1;", "(@E)!;", "@E as any;", "b ? @E : 1;", "throw @E;", "for (const x of @E) {}", "if (@E) {}", "while (@E) {}", "print(`${@E}`);", "b = @E;", "new @E();", "@E();", "1 && @E;", "class C { x = @E; }", "enum F { A = @E }"} {
		word := "Name"
		if strings.HasPrefix(text, "enum") {
			word, text = "EnumMember", "enum F { @A = E }"
		}
		refuses(t, offence{word, "let b: any = 1; " + head + text})
	}
	refuses(t, offence{"Member", head + "print(@E.C);"}, offence{"Index", head + "@E[0];"}, offence{"Name", head + "function f() { return @E; }"})
	hasTypes(t, typed{"Name", head + "print(@E);", "enum E#"}, typed{"Member", head + "print(@E.B);", "E@.B"})
}

// P12.1: SuperMembers.
func TestSuperMembers(t *testing.T) {
	const head = "class A<T> { f: T; m(): T { return this.f; } n<U>(x: U): T { return this.f; } constructor(public p: T) {} } class B extends A<string> { o(): 1 { return 1; } } class C extends B { m(): string { return ''; } x() { print("
	hasTypes(t,
		typed{"SuperMember", head + "@super.m); } }", "() => string"}, typed{"SuperMember", head + "@super.o); } }", "() => 1"}, typed{"Call", head + "@super.m()); } }", "string"},
		typed{"SuperMember", head + "() => @super.m); } }", "() => string"},
		typed{"SuperMember", head + "@super.f); } }", "any"}, typed{"SuperMember", head + "@super.x); } }", "any"}, typed{"SuperMember", head + "@super.p); } }", "any"},
		typed{"SuperMember", "class A { m(): 1 { return 1; } } class B extends A { x = @super.m; constructor() { super(); } }", "() => 1"},
	)
	refuses(t,
		offence{"SuperMember", head + "@super.f); } }"}, offence{"SuperMember", head + "@super.p); } }"}, offence{"SuperMember", head + "@super.x); } }"}, offence{"SuperMember", head + "@super.none); } }"},
		offence{"SuperMember", "class A { m = () => 1; } class B extends A { x() { @super.m(); } }"},
		offence{"SuperMember", "class A { m() {} } class B extends A { m = 1 as any; } class C extends B { x() { @super.m(); } }"},
	)
	takes(t, "class A { m(x: number) {} } class B extends A { m(x: number) { super.m(x); } }")
}
