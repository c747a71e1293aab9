package check_test

import (
	"fmt"
	"math"
	"math/rand/v2"
	"reflect"
	"strings"
	"testing"

	"shuck/api"
	"shuck/check"
)

// All that is held against the slow reading is held against calls that look ahead at once, too: see agrees.

// P12.1: parameters that stand in the place of others, by several references, are found ahead.
func TestAheadOwners(t *testing.T) {
	const head = "interface K<X> { v: X } interface P<A, B> { k: K<B>; l: P<B, A> } interface Q { k: {v: number}; l: {k: {v: string}} } interface R<A, B> { k: K<B>; l: R<B, A> } "
	matches(t, head, "a: P<T, U>", [3]string{"1 as any as Q", "string", "number"}, [3]string{"1 as any as R<1, null>", "number", "null"}, [3]string{"1 as any as {l: Q}", "number", "string"}, [3]string{"{k: {v: 1}}", "unknown", "number"}, [3]string{"{l: {k: {}}}", "unknown", "unknown"})
	matches(t, head, "a: {k: {v: T}; l: {k: {v: U}}}", [3]string{"1 as any as R<1, \"\">", "string", "number"}, [3]string{"1 as any as R<R<1, 2>, null>", "null", "R#<1, 2>"}, [3]string{"1 as any as {l: R<1, null>}", "unknown", "null"})
	matches(t, head, "a: P<P<T, U>, 1>, b: P<T[], U[]>", [3]string{"{l: {k: {v: 1 as any as Q}}}", "string", "number"}, [3]string{"n, {k: {v: [1]}, l: {k: {v: [\"\"]}}}", "string", "number"}, [3]string{"{l: {l: {k: {v: 1}}}}, 1", "unknown", "unknown"})
	// A name that both sides use for a parameter of one interface means two things.
	matches(t, head, "a: R<T, U>, b: K<T>", [3]string{"1 as any as P<1, \"\">", "number", "string"}, [3]string{"{k: 1 as any as K<1>}, 1 as any as K<string>", "string", "number"})
}

// P12.1: unions of which something may be left alone, when parameters are what they are.
func TestAheadUnions(t *testing.T) {
	const head = "interface K<X> { v: X } interface L<X> { v: X } interface P<A, B> { u: L<A> | L<B> } interface V<A, B> { u: A | L<B> } interface W<A, B> { u: L<B> | null } interface Q<A, B> { u: K<A> | K<B> } interface S<A, B> { u: A | K<B> } interface M<A, B> { u: A[] | B[] } interface N<A, B> { u: {v: A} | {v: B} } interface F<A, B> { u: ((x: A) => 1) | ((x: B) => 1) } "
	one := "{u: {v: 1}}"
	matches(t, head, "a: P<T, T>", [3]string{one, "number", "unknown"}, [3]string{"1 as any as Q<1, 1>", "number", "unknown"}, [3]string{"1 as any as Q<1, 2>", "unknown", "unknown"})
	matches(t, head, "a: P<T, U>", [3]string{one, "unknown", "unknown"})
	matches(t, head, "a: V<never, T>, b: V<L<U>, U>", [3]string{one + ", {u: {v: \"\"}}", "number", "string"}, [3]string{one + ", 1 as any as S<never, null>", "number", "null"})
	matches(t, head, "a: V<T, U>", [3]string{one, "{v: number}", "unknown"}, [3]string{"{u: 1 as any as L<2>}", "L#<2>", "unknown"})
	matches(t, head, "a: V<any, T>, b: V<1, U>", [3]string{one + ", " + one, "unknown", "unknown"})
	matches(t, head, "a: W<T, U>", [3]string{one, "unknown", "unknown"}, [3]string{"{u: null}", "unknown", "unknown"})
	matches(t, head, "a: M<T, T>, b: N<U, U>", [3]string{"{u: [1]}, {u: {v: \"\"}}", "number", "string"}, [3]string{"1 as any as M<1, 1>, 1 as any as N<null, null>", "number", "null"})
	matches(t, head, "a: F<T, T>, b: M<U, number>", [3]string{"{u: (x: string) => 1}, {u: [1]}", "string", "unknown"}, [3]string{"1 as any as F<1, 1>", "number", "unknown"})
	matches(t, head, "a: {u: L<T>}, b: {u: L<U>}", [3]string{"1 as any as Q<1, 1>, 1 as any as S<never, \"\">", "number", "string"}, [3]string{"1 as any as Q<1, 2>, 1 as any as S<1, 2>", "unknown", "unknown"}, [3]string{"1 as any as S<K<1>, 1>, 1 as any as S<any, 2>", "number", "unknown"})
}

// P12.1: a parameter of the call that is one of a declaration, too, or stands in one that has it not.
func TestAheadOwnParameters(t *testing.T) {
	hasTypes(t,
		typed{"New", "class C<T, U> { v: T = 1 as any; constructor(a: T, b: C<U, number>) {} } print(@new C(1, 1 as any as {v: string}));", "C#<number, string>"},
		typed{"New", "class C<T, U> { v: T = 1 as any; constructor(b: C<U, number>, a: T) {} } print(@new C(1 as any as {v: string}, 1));", "C#<number, string>"},
		typed{"New", "class C<T, U> { v: T = 1 as any; constructor(b: C<number, U>, a: T) {} } print(@new C(1 as any as {v: string}, 1));", "C#<number, unknown>"},
		typed{"Call", "class C { m<U>(c: C, u: U): U { return u; } } class D { m(c: C, u: number): number { return u; } } print(@new C().m(1 as any as D, \"\"));", "number"},
		typed{"Call", "class C<A> { m<U>(c: C<U>, u: U): U { return u; } v: A = 1 as any; } class D { m(c: number, u: null): null { return u; } v: string = \"\"; } print(@new C<1>().m(1 as any as D, 1));", "null"},
		typed{"Call", "interface K<X> { v: X } function f<T>(k: K<T>): T { interface J { v: T } print(@f(1 as any as J)); throw 1; }", "T'"},
		typed{"Call", "interface K<X> { v: X } function f<T, U>(k: K<U>): U { interface J<X> { v: K<X> | T; w: X } print(@f(1 as any as J<T>)); throw 1; }", "K#<T'> | T'"},
	)
}

// fits holds texts in which an argument offends, and nothing is too complex.
func fits(t *testing.T, texts ...string) {
	t.Helper()
	for _, text := range texts {
		if c, _ := agrees(t, text, read(t, text)); c.Err != api.ErrType {
			t.Errorf("%.300s: %v, %d", text, c.Err, c.Node)
		}
	}
}

// P12.1: what is too complex in matching alone is found, however far behind: the argument itself is refused at once, since it lacks z.
func TestAheadSizes(t *testing.T) {
	param := func(members, arguments string) string {
		return "interface P<A, B> { n: P<B, A>; z: 1; k: " + members + " } interface Q { n: Q } function f<T>(x: P<T, " + arguments + ">) {} f(1 as any as Q);"
	}
	arg := func(members, arguments string) string {
		return "interface P<A, B> { n: P<B, A>; k: " + members + " } interface R { n: R; z: 1 } function f<T>(x: R) {} f(1 as any as P<1, " + arguments + ">);"
	}
	for _, text := range []func(members, arguments string) string{param, arg} {
		complexes(t, text("A[][][][][]", nested(496)), text("{a: A; b: A}", nested(250)), text("{a: A; b: B}[][][][][][]", nested(493)), text("{a: {b: A; c: 1 | null}}", nested(496)), text("1; y: A[][][][][]", nested(496)))
		fits(t, text("A[][][][][]", nested(495)), text("{a: A; b: A}", nested(249)), text("{a: A; b: B}[][][][][][]", nested(492)), text("{a: {b: A; c: 1 | null}}", nested(495)), text("A", nested(496)), text("1; y: A[][][][][]", nested(495)))
	}
	// Two that are large together.
	for _, head := range []string{"interface P<A, B, C> { n: P<C, A, B>; z: 1; k: {a: A[][][][]; b: B[][][]} } interface Q { n: Q } function f<T>(x: P<T, %[1]s, %[1]s>) {} f(1 as any as Q);", "interface P<A, B, C> { n: P<C, A, B>; k: {a: A[][][][]; b: B[][][]} } interface R { n: R; z: 1 } function f<T>(x: R) {} f(1 as any as P<1, %[1]s, %[1]s>);"} {
		complexes(t, fmt.Sprintf(head, nested(247)))
		fits(t, fmt.Sprintf(head, nested(246)))
	}
	// Ever larger ones, by themselves and by each other.
	complexes(t, "interface J<T> { next: J<T[]> } interface R { next: R; z: 1 } function f<T>(x: R) {} f(1 as any as J<1>);", "interface J<T> { next: K<T[]> } interface K<T> { next: J<T> } interface R { next: R; z: 1 } function f<T>(x: R) {} f(1 as any as J<1>);", "interface I<A, B> { next: I<B, {a: A; b: A}>; z: 1 } interface R { next: R } function f<T>(x: I<T, 1>) {} f(1 as any as R);")
	fits(t, "interface J<T> { next: J<T[]> } interface R { next: {next: {}}; z: 1 } function f<T>(x: R) {} f(1 as any as J<1>);", "interface I<A, B> { next: I<B, B>; z: A[] } interface R { next: R } function f<T>(x: I<T, 1>) {} f(1 as any as R);", "interface I<A> { next: I<A | null>; z: 1 } interface R { next: R } function f<T>(x: I<T>) {} f(1 as any as R);")
}

// P12.1: what there is to be seen ahead may be more than is looked at.
func TestAheadLong(t *testing.T) {
	for _, count := range []int{100, 300, 490} {
		matches(t, "interface I "+strings.Replace(objects(count), "}", "; zz: U1}", 1)+" interface U1 {} interface J<X> "+strings.Replace(objects(count), "}", "; zz: X}", 1), "a: J<T>", [3]string{"1 as any as I", "U1#", "unknown"})
	}
}

// looksAhead holds a program against itself, with calls that look ahead behind few pairs, or never: nothing changes.
func looksAhead(t *testing.T, text string, x api.Tree) {
	t.Helper()
	want := check.Patiently(x, math.MaxInt)
	for _, patience := range []int{1, 2, 3, 4, 5, 7, 10, 20, 50} {
		if got := check.Patiently(x, patience); !reflect.DeepEqual(got, want) {
			t.Fatalf("%.2000s: ahead of %d pairs %v, %d, else %v, %d", text, patience, got.Err, got.Node, want.Err, want.Node)
		}
	}
}

// knot writes declarations that lead to each other, and calls that match them.
type knot struct {
	choose func(n int) int
	counts []int // of parameters, of each interface
}

func (k *knot) one(l ...string) string { return l[k.choose(len(l))] }

// typ is a type of parameters' names and of interfaces, at most so deep.
func (k *knot) typ(vars []string, deep int) string {
	if len(vars) > 0 && k.choose(3) == 0 {
		return k.one(vars...)
	}
	if deep <= 0 {
		return k.one("number", "string", "1", "\"a\"", "null", "any", "unknown", "never", "boolean", "undefined", "Large", "Larger")
	}
	switch k.choose(8) {
	case 0:
		return "(" + k.typ(vars, deep-1) + " | " + k.typ(vars, deep-1) + ")"
	case 1:
		return k.typ(vars, deep-1) + "[]"
	case 2:
		return "((p: " + k.typ(vars, deep-1) + ") => " + k.typ(vars, deep-1) + ")"
	case 3:
		return "{" + k.members(vars, deep-1) + "}"
	case 4:
		return k.typ(vars, 0)
	}
	return k.ref(vars, deep-1)
}

// ref is an interface with types in the place of its parameters.
func (k *knot) ref(vars []string, deep int) string {
	i := k.choose(len(k.counts))
	var l []string
	for range k.counts[i] {
		l = append(l, k.typ(vars, deep-k.choose(2)))
	}
	return fmt.Sprintf("I%d%s", i, list(l))
}

func (k *knot) members(vars []string, deep int) string {
	s := ""
	for _, name := range []string{"a", "b", "c", "d"} {
		if k.choose(3) > 0 {
			s += name + k.one("", "", "?") + ": " + k.typ(vars, deep) + "; "
		}
	}
	return s
}

// names are those of so many parameters.
func names(word string, count int) []string {
	var l []string
	for i := range count {
		l = append(l, fmt.Sprintf("%s%d", word, i))
	}
	return l
}

func list(l []string) string {
	if len(l) == 0 {
		return ""
	}
	return "<" + strings.Join(l, ", ") + ">"
}

// like is a type with each of some words in the place of each interface's I and of each parameter.
func (k *knot) like(typ string, params, outer []string) string {
	l := []string{"I", k.one("I", "J", "J", "J")}
	for _, p := range params {
		l = append(l, p, "("+k.typ(outer, k.choose(2))+")")
	}
	return strings.NewReplacer(l...).Replace(typ)
}

// program has two interfaces of each kind, much like each other, but for z, without which nothing but matching looks further, and calls with arguments much like the Params.
func (k *knot) program() string {
	for range 2 + k.choose(3) {
		k.counts = append(k.counts, k.choose(4))
	}
	s := ""
	for i, count := range k.counts {
		vars := names("A", count)
		members := k.members(vars, 1+k.choose(2))
		s += fmt.Sprintf("interface I%d%s { %s%s} ", i, list(vars), members, k.one("z: 1; ", ""))
		if k.choose(4) == 0 {
			members = k.members(vars, 1)
		}
		s += fmt.Sprintf("interface J%d%s { %s} ", i, list(vars), strings.ReplaceAll(members, "I", k.one("J", "J", "I")))
	}
	params := names("T", 1+k.choose(3))
	answer, asked := "", []string{k.typ(params, 2), k.typ(params, 2), k.typ(params, 2)}
	for _, p := range params {
		answer += strings.ToLower(p) + ": " + p + "; "
	}
	s += fmt.Sprintf("function f%s(x: %s, y: %s, z: %s): {%s} { throw 1; } ", list(params), asked[0], asked[1], asked[2], answer)
	outer := names("O", k.choose(2))
	s += "function g" + list(outer) + "() { "
	for range 1 + k.choose(3) {
		s += fmt.Sprintf("f(1 as any as %s, 1 as any as %s, 1 as any as %s); ", k.like(asked[0], params, outer), k.like(asked[1], params, outer), k.typ(outer, 1))
	}
	return s + "} " + strings.Repeat("type Large = "+nested(120)+"; type Larger = {l: "+nested(240)+"};", min(1, strings.Count(s, "Large")))
}

// P12.1: that a call looks ahead changes nothing, in programs of interfaces that lead to each other by chance.
func TestAheadChance(t *testing.T) {
	verdicts := map[api.Errno]int{}
	for seed := range uint64(600) {
		k := &knot{choose: rand.New(rand.NewPCG(seed, 41)).IntN}
		text := k.program()
		x := read(t, text)
		c, _ := agrees(t, text, x)
		verdicts[c.Err]++
		looksAhead(t, text, x)
	}
	t.Log(verdicts)
	if verdicts[api.ErrType] < 300 || verdicts[api.ErrComplex] < 50 {
		t.Errorf("only %v", verdicts)
	}
}
