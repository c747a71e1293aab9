package check_test

import (
	"math/rand/v2"
	"strconv"
	"strings"

	"shuck/api"
)

// pieces are declarations that programs by chance lean on, by the words with which they are asked for.
var pieces = map[string]string{
	"U":     `type U = {k: "a"; x: number} | {k: "b"; y: string; x?: string};`,
	"O":     `interface O { v: number; w?: string; f(a: number, b?: string): string }`,
	"I":     `interface I<T> { x: T; next: I<T> | null }`,
	"J":     `interface J<T> extends I<T>, K { z: T[] } interface K { w: string }`,
	"P":     `class P<T> { constructor(public v: T, readonly r: number) { this.r = r; (() => { this.r = 2; })(); } get(): T { return this.v; } map<W>(f: (x: T) => W): P<W> { return new P(f(this.v), this.r); } put(x?: T): void { if (x !== undefined) { this.v = x; } } }`,
	"Q":     `class Q extends P<string> { n: number = 0; constructor(s: string) { super(s, 1); this.n = s.length; } both(): string { return super.get() + this.get() + this.n; } }`,
	"R":     `class R<A, B> extends P<A[]> { }`,
	"S":     `class S implements O { v = 1; f(a: number, b?: string): string { return b === undefined ? "" : b; } }`,
	"E":     `enum E { X, Y = "y", Z = 1 << 2 }`,
	"F":     `const enum F { X, Y }`,
	"N":     `namespace N { export interface I { a: number } export const c: I = {a: 1}; export function id<T>(x: T): T { return x; } export class C { x = 1; } export enum E { X } export namespace M { export type L<T> = T[] | null; export const d = [1]; } }`,
	"L":     `type L<T> = {head: T; tail: L0<T>[]}; interface L0<T> { l: L<T> | null }`,
	"id":    `function id<T>(x: T): T { return x; }`,
	"two":   `function two<A, B>(a: A, b: B): {k: A; x: B} { return {k: a, x: b}; }`,
	"first": `function first<T>(l: T[], d?: T): T | undefined { for (const x of l) { return x; } return d; }`,
	"or":    `function or<T>(x: T | null | undefined, d: T): T { return x === null || x === undefined ? d : x as T; }`,
	"app":   `function app<T, W>(f: (x: T, n: number) => W, x: T): W { return f(x, 1); }`,
	"head":  `function head<T>(i: I<T>): T { return i.x; }`,
	"open":  `function open<T, W>(p: P<T>, o: {v: T; w?: W}): T { return p.get(); }`,
}

// needs are the pieces that a piece leans on.
var needs = map[string]string{"J": "I", "Q": "P", "R": "P", "S": "O", "head": "I", "open": "P"}

// variable is a name that a program by chance may use.
type variable struct {
	name, typ string
	isConst   bool
}

// writer writes typed programs: most of what it writes is of the type that is asked for.
type writer struct {
	choose   func(n int) int
	used     map[string]bool
	head     strings.Builder
	vars     []variable
	count    int
	inFunc   string // the written answer, "-" without one
	inLoop   bool
	spoiling int // one in so many is of another type
}

func newWriter(seed uint64, spoiling int) *writer {
	return &writer{choose: rand.New(rand.NewPCG(seed, 24)).IntN, used: map[string]bool{}, spoiling: spoiling}
}

// need has a piece stand at the program's head.
func (w *writer) need(words ...string) {
	for _, word := range words {
		if w.used[word] {
			continue
		}
		w.used[word] = true
		w.need(strings.Fields(needs[word])...)
		w.head.WriteString(pieces[word] + "\n")
	}
}

func (w *writer) one(l ...string) string { return l[w.choose(len(l))] }

func (w *writer) fresh() string {
	w.count++
	return "v" + strconv.Itoa(w.count)
}

// typ is the text of some type.
func (w *writer) typ() string {
	t := w.one("number", "string", "boolean", "number | string", "string | null", "number | undefined", "number[]", "string[]", "any", "unknown", "U", "O", "I<number>", "P<number>", "P<number> | null", "Q", "R<number, string>", "E", "E | null", "F", "N.I", "N.M.L<string>", "(a: number) => string", "{k: number; x: string}", "L<number>", `1 | "a" | null`, "J<string>", "S", "E.X")
	w.needFor(t)
	return t
}

func (w *writer) needFor(t string) {
	for _, word := range strings.FieldsFunc(t, func(r rune) bool { return !(r >= 'A' && r <= 'Z') }) {
		if _, ok := pieces[word]; ok {
			w.need(word)
		}
	}
}

// of is an expression of a type, or, now and then, of another one, that may stand anywhere.
func (w *writer) of(typ string, deep int) string {
	s := w.bare(typ, deep)
	if strings.ContainsAny(s, " {=-") && !strings.HasPrefix(s, "(") {
		return "(" + s + ")"
	}
	return s
}

func (w *writer) bare(typ string, deep int) string {
	if w.spoiling > 0 && w.choose(w.spoiling) == 0 {
		typ = w.typ()
	}
	if deep > 0 {
		if s, ok := w.composed(typ, deep-1); ok {
			return s
		}
	}
	var fitting []string
	for _, v := range w.vars {
		if v.typ == typ {
			fitting = append(fitting, v.name)
		}
	}
	if len(fitting) > 0 && w.choose(3) > 0 {
		return w.one(fitting...)
	}
	return w.plain(typ, deep-1)
}

// composed is an expression that goes for any type.
func (w *writer) composed(typ string, deep int) (string, bool) {
	arg := func() string { return w.of(typ, deep) }
	switch w.choose(16) {
	case 0:
		return "(" + w.condition(deep) + " ? " + arg() + " : " + arg() + ")", true
	case 1:
		return "(" + arg() + " as " + typ + ")", true
	case 2:
		w.need("id")
		return w.one("id(", "id<"+typ+">(") + arg() + ")", true
	case 3:
		w.need("or")
		return "or(" + w.one(arg(), "null", "undefined") + ", " + arg() + ")", true
	case 4:
		w.need("app")
		p := w.fresh()
		return "app((" + p + w.one("", ": any") + ") => (" + arg() + "), " + w.of(w.typ(), deep) + ")", true
	case 5:
		return "(" + arg() + ")!", true
	case 6:
		w.need("two")
		return "two(" + arg() + ", 1).k", true
	case 7:
		w.need("P")
		return "new P" + w.one("", "<"+typ+">") + "(" + arg() + ", 1)." + w.one("v", "get()", "map((x) => x).v"), true
	case 8:
		return "[" + arg() + ", " + arg() + "][0]", true
	case 9:
		return "(() => { " + w.one("if ("+w.condition(deep)+") { return "+arg()+"; } ", "") + "return " + arg() + "; })()", true
	case 10:
		return "({k: " + arg() + "}).k", true
	}
	return "", false
}

// plain is an expression of a type that is made of what that type has.
func (w *writer) plain(typ string, deep int) string {
	deep = max(0, deep)
	switch typ {
	case "number":
		if deep > 0 && w.choose(3) == 0 {
			return w.one("("+w.of("number", deep)+w.one(" + ", " - ", " * ", " | ", " >>> ")+w.of("number", deep)+")", "-"+w.of("number", deep), w.of("string", deep)+".length", w.of("number[]", deep)+".push(1)", w.of("number[]", deep)+"[0]")
		}
		return w.one("0", "1", "2")
	case "string":
		if deep > 0 && w.choose(3) == 0 {
			return w.one("(\"\" + "+w.of("number", deep)+")", "`a${"+w.of("number", deep)+"}`", "typeof "+w.of("number", deep), w.of("string[]", deep)+"[1]")
		}
		return w.one(`"a"`, `"b"`, `""`)
	case "boolean":
		return w.one("true", "false", "("+w.condition(deep)+")")
	case "any":
		return "(" + w.of(w.typ(), deep) + " as any)"
	case "unknown":
		return w.of(w.typ(), deep)
	case "number[]":
		return w.one("[]", "[1]", "["+w.of("number", deep)+"]")
	case "string[]":
		return w.one("[]", `["a"]`, "["+w.of("string", deep)+", "+w.of("string", deep)+"]")
	case "U":
		return w.one(`{k: "a" as "a", x: `+w.of("number", deep)+`}`, `({k: "b", y: "", x: undefined} as U)`)
	case "O":
		w.need("S")
		return w.one("new S()", `{v: 1, f: (a, b?: any) => "", w: `+w.of("string", deep)+`}`)
	case "I<number>":
		return "{x: " + w.of("number", deep) + ", next: null}"
	case "J<string>":
		return `{x: "a", next: null, z: [], w: ""}`
	case "P<number>":
		return w.one("new P(1, 2)", "new P<number>("+w.of("number", deep)+", 1)", "new P(1, 2).map((x) => 1)")
	case "Q":
		return "new Q(" + w.of("string", deep) + ")"
	case "R<number, string>":
		return "new R<number, string>(" + w.of("number[]", deep) + ", 1)"
	case "E":
		return w.one("E.X", "E.Y", "E.Z")
	case "E.X":
		return "E.X"
	case "F":
		return w.one("F.X", "F.Y")
	case "N.I":
		return w.one("N.c", "{a: 1}", "N.id(N.c)")
	case "N.M.L<string>":
		return w.one("null", `["a"]`, w.of("string[]", deep))
	case "(a: number) => string":
		return "(" + w.one(`(a: number) => "x"`, "(a) => ("+w.of("string", deep)+")", "(a: any, b?: number) => { return "+w.of("string", deep)+"; }") + ")"
	case "{k: number; x: string}":
		return w.one("{k: 1, x: \"\"}", "{k: "+w.of("number", deep)+", x: "+w.of("string", deep)+"}")
	case "L<number>":
		return w.one("{head: 1, tail: []}", "{head: "+w.of("number", deep)+", tail: [{l: null}]}")
	case "S":
		return "new S()"
	}
	if l := strings.Split(typ, " | "); len(l) > 1 {
		return w.of(l[w.choose(len(l))], deep)
	}
	return typ // a value: 1, "a", null, undefined
}

// condition is an expression that says something, if it can.
func (w *writer) condition(deep int) string {
	if deep > 0 {
		switch w.choose(6) {
		case 0:
			return "!(" + w.condition(deep-1) + ")"
		case 1, 2:
			return "(" + w.condition(deep-1) + w.one(" && ", " || ") + w.condition(deep-1) + ")"
		}
	}
	if len(w.vars) == 0 || w.choose(8) == 0 {
		return w.one("true", "false")
	}
	v := w.vars[w.choose(len(w.vars))]
	equal := w.one(" === ", " !== ")
	switch w.choose(5) {
	case 0:
		return v.name
	case 1:
		return "typeof " + v.name + equal + w.one(`"string"`, `"number"`, `"object"`, `"function"`, `"undefined"`, `"boolean"`)
	case 2:
		if strings.Contains(v.typ, "E") {
			w.need("E")
			return w.one(v.name+equal+"E.X", "E.Y"+equal+v.name)
		}
		return w.one(v.name+equal+w.one("null", "undefined", "1", `"a"`, "true", "-1"), "null"+equal+v.name)
	case 3:
		return w.one(v.name+".k"+equal+w.one(`"a"`, `"b"`), `"b"`+equal+v.name+".k")
	}
	return w.one(`"x" in `, `"k" in `, `"w" in `) + v.name
}

// uses are what a value of a type is used for.
func (w *writer) uses(v variable) string {
	switch v.typ {
	case "U":
		return v.name + w.one(".k", ".x", ".y", "!.x")
	case "O":
		return v.name + w.one(".v", ".w", ".f(1)", `.f(1, "a")`, ".f()")
	case "I<number>", "J<string>":
		w.need("head")
		return w.one(v.name+".next", v.name+".x", "head("+v.name+")")
	case "P<number>", "Q", "R<number, string>":
		w.need("open")
		return w.one(v.name+".get()", v.name+".v", v.name+".map((x) => [x])", v.name+".map<string>((x) => \"\")", v.name+".put()", "open("+v.name+", {v: 1})", v.name+".r")
	case "P<number> | null":
		return w.one(v.name+"!.get()", v.name+" && "+v.name+".v", v.name+".v")
	case "N.M.L<string>":
		w.need("first")
		return w.one("first("+v.name+"!)", v.name+"!.length", "N.M.d")
	case "number[]", "string[]":
		w.need("first")
		return w.one("first("+v.name+")", v.name+"[0]", v.name+".length")
	}
	return w.one(v.name, v.name+"!", "print("+v.name+")", v.name+" + 1", "-"+v.name, v.name+" + \"\"", v.name+".length", v.name+" < 1", v.name+".k", v.name+"(1)")
}

// within is statements of a block, whose variables end with it.
func (w *writer) within(deep int) string {
	kept := len(w.vars)
	s := ""
	for range 1 + w.choose(3) {
		s += w.statement(deep-1) + " "
	}
	w.vars = w.vars[:kept]
	return "{ " + s + "}"
}

func (w *writer) statement(deep int) string {
	if deep <= 0 {
		return w.simple(1)
	}
	switch w.choose(14) {
	case 0, 1:
		return "if (" + w.condition(2) + ") " + w.within(deep) + w.one("", "", " else "+w.within(deep), " else if ("+w.condition(1)+") "+w.within(deep))
	case 2:
		return w.looping("while ("+w.one(w.condition(2), "true")+") ", deep)
	case 3:
		name := w.fresh()
		s := "for (" + w.one("let "+name+": number | string = 0", "") + "; " + w.one(w.condition(1), "") + "; " + w.one(w.of(w.typ(), 1), "") + ") "
		return w.looping(s, deep)
	case 4:
		name := w.fresh()
		s := "for (" + w.one("let ", "const ") + name + " of " + w.of(w.one("number[]", "string[]", "string"), 1) + ") "
		w.vars = append(w.vars, variable{name, "number", true})
		s = w.looping(s, deep)
		w.vars = w.vars[:len(w.vars)-1]
		return s
	case 5:
		return w.trying(deep)
	case 6:
		return w.function(deep)
	case 7:
		return w.within(deep)
	}
	return w.simple(2)
}

func (w *writer) looping(head string, deep int) string {
	outer := w.inLoop
	w.inLoop = true
	s := head + w.within(deep)
	w.inLoop = outer
	return s
}

func (w *writer) trying(deep int) string {
	name := w.fresh()
	s := "try " + w.within(deep) + " catch (" + name + ") "
	w.vars = append(w.vars, variable{name, "unknown", false})
	s += w.within(deep)
	w.vars = w.vars[:len(w.vars)-1]
	return s + w.one("", " finally "+w.within(deep))
}

func (w *writer) function(deep int) string {
	outer, loop, kept := w.inFunc, w.inLoop, len(w.vars)
	w.inLoop, w.inFunc = false, w.one("-", w.typ(), w.typ())
	name, p, q := w.fresh(), w.fresh(), w.fresh()
	t, u := w.typ(), w.typ()
	answer := ": " + w.inFunc
	if w.inFunc == "-" {
		answer = ""
	}
	w.vars = append(w.vars, variable{p, t, false}, variable{q, u + " | undefined", false})
	body := w.within(deep)
	s := ""
	if w.choose(2) == 0 {
		s = "function " + name + "(" + p + ": " + t + ", " + q + "?: " + u + ")" + answer + " " + body
	} else {
		s = "const " + name + " = (" + p + ": " + t + ", " + q + "?: " + u + ") => " + body + ";"
	}
	w.inFunc, w.inLoop, w.vars = outer, loop, w.vars[:kept]
	return s
}

func (w *writer) simple(deep int) string {
	switch w.choose(10) {
	case 0, 1, 2, 3:
		t, name := w.typ(), w.fresh()
		isConst := w.choose(3) == 0
		word := "let "
		if isConst {
			word = "const "
		}
		s := word + name + w.one(": "+t, ": "+t, "") + " = " + w.of(t, deep) + ";"
		w.vars = append(w.vars, variable{name, t, isConst})
		return s
	case 4, 5:
		for _, v := range w.vars {
			if !v.isConst && w.choose(3) == 0 {
				return v.name + w.one(" = ", " = ", " = ", " += ", " -= ") + w.of(v.typ, deep) + ";"
			}
		}
	case 6:
		switch {
		case w.inLoop && w.choose(2) == 0:
			return w.one("break;", "continue;")
		case w.inFunc == "-":
			return w.one("return;", "return "+w.of(w.typ(), deep)+";")
		case w.inFunc != "":
			return "return " + w.of(w.inFunc, deep) + ";"
		}
		return w.one("throw 1;", ";")
	}
	if len(w.vars) > 0 && w.choose(4) > 0 {
		return w.uses(w.vars[w.choose(len(w.vars))]) + ";"
	}
	return "print(" + w.of(w.typ(), deep) + ");"
}

// program is a whole text.
func (w *writer) program(statements int) string {
	s := ""
	for range statements {
		s += w.statement(3) + "\n"
	}
	return w.head.String() + s
}

// thingOf is the thing of a node.
func thingOf(x api.Tree, n int) *thing {
	node := x.Nodes[n]
	made := &thing{kind: node.Kind, text: node.Text, num: node.Num}
	for _, kid := range node.Kids {
		made.kids = append(made.kids, thingOf(x, kid))
	}
	return made
}
