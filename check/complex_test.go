package check_test

import (
	"fmt"
	"strings"
	"testing"

	"shuck/api"
)

// values is so many types of one value, as a union: numbers from one on, or texts.
func values(from, count int, sign string) string {
	var l []string
	for i := range count {
		l = append(l, fmt.Sprintf(sign, from+i))
	}
	return strings.Join(l, " | ")
}

// nested is a type of arrays about number, of a size.
func nested(size int) string { return "number" + strings.Repeat("[]", size-1) }

// objects is a type of the size of so many members and one more.
func objects(count int) string {
	var l []string
	for i := range count {
		l = append(l, fmt.Sprintf("m%d: 1", i))
	}
	return "{" + strings.Join(l, "; ") + "}"
}

// let declares a name of a type. (As a Param of a function it would be in that one's type, too.)
func let(name, typ string) string { return "let " + name + ": " + typ + " = 1 as any; " }

// P12.1: a type that is too large, wherever it is made; and the largest ones.
func TestLargeTypes(t *testing.T) {
	const most = api.MaxSize
	takes(t,
		"type A = "+nested(most)+";", "type A = "+objects(most-1)+";", "type A = "+values(0, most-1, "%d")+";", "function f(x: "+nested(most-2)+") {}", "type A = (x: "+nested(most-2)+") => 1;", "class C { m(x: "+nested(most-2)+") {} constructor(x: "+nested(most)+", y: "+nested(most)+") {} }",
		"type A<T> = {a: T; b: T}; "+let("x", "A<"+nested(249)+">"), "interface I<T> { a: T[] } "+let("x", "I<"+nested(most-1)+">")+"x.a;", "function f(x?: "+values(0, most-4, "%d")+") {}",
	)
	complexes(t,
		"type A = "+nested(most+1)+";", "type A = "+objects(most)+";", "type A = "+values(0, most, "%d")+";", "function f(x: "+nested(most-1)+") {}", "type A = (x: "+nested(most-1)+") => 1;", "class C { m(x: "+nested(most-1)+") {} }", "class C { constructor(x: "+nested(most+1)+") {} }", "print((x: "+nested(most-1)+") => 1);",
		"type A<T> = {a: T; b: T}; "+let("x", "A<"+nested(250)+">"), "interface I<T> {} "+let("x", "I<"+nested(most)+">"), "class C<T> {} class D extends C<"+nested(most)+"> {}",
		// An Interface's TypeObject is a type like others.
		"interface I "+objects(most),
		"interface I<T> { a: T[][] } interface J extends I<"+nested(most-1)+"> {}", "class I<T> { a: T[][]; } class J extends I<"+nested(most-1)+"> {}", "class I<T> { a: T[][]; } class J extends I<"+nested(most-1)+"> { a: any; }",
		"class C { constructor(x?: "+values(0, most-1, "%d")+") {} }", "interface I<T> { a: T[][] } "+let("x", "I<"+nested(most-1)+">")+"x.b;",
		"class I<T> { constructor(x: T[][]) {} } class J extends I<"+nested(most-1)+"> {} new J(1 as any);", "class I<T> { constructor(x: T[][]) {} } new I<"+nested(most-1)+">(1 as any);", "function f<T>(x: T[][]) {} f<"+nested(most-1)+">(1 as any);", "function f<T>(): T[][] { throw 1; } f<"+nested(most-1)+">();",
	)
	takes(t,
		"class I<T> { constructor(x: T[][]) {} } class J extends I<"+nested(most-1)+"> {}", "class I<T> { constructor(x?: T[][]) {} } new I<"+nested(most-1)+">();",
		"class C { m() {} "+strings.Trim(strings.ReplaceAll(objects(most+100), "}", ";"), "{")+" }",
	)
}

// P12.1: types of expressions that are too large.
func TestLargeExpressions(t *testing.T) {
	double := func(most int) string {
		s := "let a0 = {x: 1, y: 1};"
		for i := range most {
			s += fmt.Sprintf(" let a%d = {x: a%d, y: a%d};", i+1, i, i)
		}
		return s + " "
	}
	takes(t, double(6), double(6)+"const l = [a6, a6]; print([[a6]]);")
	const last = "{x: a6, y: a6}"
	complexes(t, double(7), double(6)+"print("+last+");", double(6)+"print(() => ("+last+"));", double(6)+"class C { v = "+last+"; }", double(6)+"while (false) { throw "+last+"; }", double(6)+"enum E { A = "+last+" }", double(6)+"print((x: any) => { return 1; print("+last+"); });", double(6)+"print(`${"+last+"}`);", double(6)+"function f() { return "+last+"; }")
	// Widened types may be larger than those that are widened.
	trues := func(count int, head, tail string) string {
		var l []string
		for i := range count {
			l = append(l, fmt.Sprintf("m%d: true", i))
		}
		return head + "{" + strings.Join(l, ", ") + "}" + tail
	}
	takes(t, trues(166, "let x = ", "; print(x);"), trues(200, "print(", ");"), trues(200, "let x = ", ";"), trues(200, "const x = ", ";"))
	complexes(t, trues(167, "let x = ", "; print(x);"), trues(167, "const x = ", "; print(x);"), trues(167, "print([", "]);"), trues(167, "print(() => (", "));"), trues(167, "print(() => { return ", "; });"), trues(167, "function f<T>(x: T) {} f(", ");"), trues(167, "print(() => { throw 1; return ", "; });"))
	takes(t, trues(167, "function f(x: any) {} f(", ");"), trues(167, "function f<T>(x: number) {} f(", " as any);"))
	// Unions: of Cond, of what is joined, of Returns, of members.
	u, v := values(0, 260, "%d"), values(300, 260, "%d")
	xy := let("x", u) + let("y", v) + let("b", "boolean")
	complexes(t,
		xy+"b ? x : y;", xy+"b && x || y;", xy+"x || y;", let("x", "{a: "+values(0, 240, "%d")+"} | {a: "+values(300, 240, "%d")+"}")+"x.a + 1;", let("x", "("+values(0, 247, "%d")+")[] | ("+values(300, 247, "%d")+")[]")+"for (const y of x) { y + 1; }",
		"interface I<T> { a?: T } "+let("x", "I<"+values(0, api.MaxSize-1, "%d")+">"), "interface I<T> { a?: T | null } "+let("x", "I<"+values(0, api.MaxSize-2, "%d")+">")+"x.a;", "class P<T> { constructor(readonly a: T) {} } "+let("x", "P<"+u+"> | P<"+v+">"),
	)
	takes(t, "interface I<T> { a?: T | null } "+let("x", "I<"+values(0, api.MaxSize-3, "%d")+">")+"x.a;")
	takes(t, xy+"b ? x : 1; b ? 1 : y; b && x; [x, y];", let("x", "{a: "+values(0, 240, "%d")+"} | {a: "+values(300, 240, "%d")+"}")+"x.a;")
}

// P12.1: questions with too many pairs.
func TestManyPairs(t *testing.T) {
	u, v := values(0, 45, "%d"), values(0, 45, "\"a%d\"")
	complexes(t,
		"function f(x: "+u+") { let y: "+v+" = x; }", "function f(x: "+u+") { let y: "+v+" = 1 as any; y = x; }", "function f(x: "+u+"): "+v+" { return x; }", "function g(y: "+v+") {} function f(x: "+u+") { g(x); }", "function f(x: "+u+") { x as "+v+"; }", "function f(x: "+v+") { x as "+u+"; }", "class A { a: "+v+"; } class B extends A { a: "+u+"; }", "interface A { a: "+v+" } interface B extends A { a: "+u+" }", "interface A { a: "+v+" } class B implements A { a: "+u+"; }", "class A { a: "+v+" = 1 as any as "+u+"; }", "class A { constructor(x: "+v+") {} } function f(x: "+u+") { new A(x); }", "class A { constructor(x: "+v+") {} } class B extends A { constructor(x: "+u+") { super(x); } }",
		"function f(x: "+u+") { return; let y: "+v+" = x; }", "function f(x: {a: "+v+"; b: number}, y: {a: "+u+"; b: string}) { x = y; }", "function g(y: "+v+") {} function f(x: "+u+") { g(x, 1); }", "function f(x: {a: "+v+"; b: 1; c?: 1}) {} interface A { a: {z: "+v+"} } interface B extends A { a?: {z: "+u+"} }",
	)
	u, v = values(0, 40, "%d"), values(0, 40, "\"a%d\"")
	refuses(t, offence{"Name", "function f(x: " + u + ") { let y: " + v + " = @x; }"}, offence{"As", "function f(x: " + u + ") { @x as " + v + "; }"})
	// Of a sum each question is asked, whatever the others answer.
	takes(t, let("x", values(0, 285, "%d"))+"x + 1; x - 1; x < 1;")
	complexes(t, let("x", values(0, 286, "%d"))+"x + 1;", let("x", values(0, 286, "%d"))+"1 + x;", let("x", values(0, 286, "%d"))+"let y = 1; y += x;", let("x", values(0, 286, "\"%d\""))+"x + \"\";", let("x", values(0, 286, "%d"))+"let a: any = 1; a + x;")
	takes(t, let("x", values(0, 286, "%d"))+"x - 1; x < 1; -x; [1][x];")
	// Interfaces that lead to ever new ones.
	complexes(t, "interface I<T> { next: I<T[]> } interface J<T> { next: J<T[]> } function f(i: I<1>) { let j: J<1> = i; }", "interface I<T> { next: I<T[]> } class J<T> implements I<T> { next: J<T[]> = this as any; }", "interface I<T> { v: T; next: I<T[]> } interface J<T> { v: T; next: J<T[]> } function g<T>(i: I<T>) {} function f(j: J<1>) { g(j); }")
	// In matching, where the question whether it is taken is no at once.
	complexes(t, "interface I<T> { next: I<T[]>; z: 1 } interface J<T> { next: J<T[]> } function g<T>(i: I<T>) {} function f(j: J<1>) { g(j); }")
	takes(t, "interface I<T> { next: I<T[]> } function f(i: I<1>) { let j: I<1> = i; i.next.next; }", "interface I<T> { next: I<T[]> } function g<T>(i: I<T>) {} function f(j: I<number>) { g(j); }")
}

// P12.1: tests that are too much.
func TestLargeTests(t *testing.T) {
	const head = "interface I<T> { k: 1; a: T[][] } "
	big := "I<" + nested(api.MaxSize-3) + ">"
	bigger := "I<" + nested(api.MaxSize-1) + ">"
	takes(t, head+let("x", bigger)+"if (x === null) {} if (x) {} if (typeof x === \"object\") {} x!; let y: any = x; x = x; x as any;", head+let("x", big)+"x.k; if (\"k\" in x) {} if (x.k === 1) {} let y: {k: 1} | null = 1 as any; y = x;")
	complexes(t, head+let("x", bigger)+"if (\"k\" in x) {}", head+let("x", bigger)+"x.k;", head+let("x", bigger)+"if (x.k === 1) {}", head+let("x", bigger)+"\"k\" in x;")
	// What is assigned: each part of the declared type, against each of the value's.
	complexes(t, head+let("y", bigger)+"let x: {} | null = y;", head+let("y", bigger)+let("x", "{} | null")+"x = y;", head+let("y", bigger)+let("x", "number | {}")+"x = y;")
	// A test alone: of TestField and of TestHas the Pieces of each part, though the condition itself asks for none.
	complexes(t, head+let("x", "any")+let("y", bigger+" | null")+"if (\"k\" in (y as any)) {} if (\"k\" in y) {}")
	// Facts that are too large where ways join: of an enum nothing is known against a number, which stands for itself in each way.
	for _, count := range []int{api.MaxSize - 3, api.MaxSize - 2} {
		text := "function f(b: boolean) { let x: number"
		for i := range count {
			text = fmt.Sprintf("enum E%d {} ", i) + text + fmt.Sprintf(" | E%d", i)
		}
		text += " = 1 as any; if (b) { if (x !== 5) { return; } } else { if (x !== 6) { return; } } x; }"
		if count == api.MaxSize-3 {
			takes(t, text)
		} else {
			complexes(t, text)
		}
	}
}

// P12.1: ErrComplex stands ahead of each offence, be it ahead of or behind what is too much.
func TestComplexFirst(t *testing.T) {
	big := "type Big = " + nested(api.MaxSize+1) + "; "
	complexes(t, big+"let x: number = \"\";", "let x: number = \"\"; "+big, "let x: Nope = 1; "+big+"print(1 + {});", "function f(): number {} "+big, "throw 1; "+big, "function f() { return; { "+big+"} }", "interface A extends A {} "+big, "enum E { A, A } "+big)
	// Chapter 7 stands ahead of it.
	x := read(t, big+"y;")
	if c := program(t, x); c.Err != api.ErrName || c.Node != len(x.Nodes)-1 {
		t.Error(c.Err, c.Node)
	}
}
