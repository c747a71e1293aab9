package erase_test

import (
	"slices"
	"testing"
	"unsafe"

	"shuck/api"
	"shuck/erase"
)

// whole is a program with something of each sort.
const whole = constEnums + "enum F { A, B = -1, C = 'c' } namespace N { export const a: A = E.B; export type T = 1; function f<T>(x?: T): T { return (x as T)!; } export namespace M { export class D {} } } class C extends N implements I { x; readonly y: B = E.C; constructor(public b, readonly c?: C) { super(b!); E.A; } } N.M.D; F.A;"

// handedIn are programs that are taken, ones that are refused, and what is none.
func handedIn(t *testing.T) []api.Tree {
	t.Helper()
	l := append(noTrees(t), read(t, whole), read(t, ""))
	for _, text := range []string{"const enum E { A } E;", "enum E { A, A }", "x;"} {
		l = append(l, read(t, text))
	}
	g := newGrower(4)
	for n := range 60 {
		x, _ := lay(g.program(3))
		l = append(l, x)
		if x, ok := g.good(t, 3+n%4, map[string]int{}); ok {
			l = append(l, x)
		}
	}
	return l
}

// P13.4: an answer stays what it was, whatever becomes of what was handed in and of another answer; nothing is kept from one call to the next. (That nothing that is handed in changes is looked at wherever something is erased.)
func TestAnswersAreNew(t *testing.T) {
	for _, x := range handedIn(t) {
		y := roomy(x)
		left, n, e := erase.Program(y)
		want := copied(left)
		other, _, _ := erase.Program(y)
		spoilAll(other)
		spoilAll(y)
		if !equal(left, want) {
			t.Fatalf("the answer of %v shares", x)
		}
		if again := program(t, x); !again.is(answer{want, n, e}) {
			t.Fatalf("%v, then %v", answer{want, n, e}, again)
		}
	}
}

// P13.4: no two lists of an answer share anything, their room too.
func TestListsAreApart(t *testing.T) {
	for _, x := range handedIn(t) {
		left, _, _ := erase.Program(x)
		for i, n := range left.Nodes {
			kids := n.Kids[:cap(n.Kids)]
			for j := range kids {
				kids[j] = i
			}
		}
		for i, n := range left.Nodes {
			if slices.ContainsFunc(n.Kids[:cap(n.Kids)], func(k int) bool { return k != i }) {
				t.Fatalf("the node %d's Kids are another's: %v", i, left)
			}
		}
	}
}

// P13.4: texts are new memory too, each of them.
func TestTextsAreNew(t *testing.T) {
	x := read(t, whole)
	seen := map[*byte]bool{}
	for n := range x.Nodes {
		seen[unsafe.StringData(x.Nodes[n].Text)] = true
	}
	count := 0
	for range 2 {
		left, _, e := erase.Program(x)
		if e != api.OK {
			t.Fatal(e)
		}
		for _, n := range left.Nodes {
			if n.Text == "" {
				continue
			}
			if seen[unsafe.StringData(n.Text)] {
				t.Errorf("%q of %v is what was handed in, or what was answered", n.Text, n)
			}
			seen[unsafe.StringData(n.Text)] = true
			count++
		}
	}
	if count < 60 {
		t.Errorf("only %d", count)
	}
}

// P13.4: calls of several goroutines on one tree do not touch each other.
func TestSideBySide(t *testing.T) {
	x := read(t, whole)
	want := program(t, x)
	done := make(chan bool)
	for range 8 {
		go func() {
			same := true
			for range 50 {
				var got answer
				got.left, got.node, got.err = erase.Program(x)
				same = same && got.is(want)
				spoilAll(got.left)
			}
			done <- same
		}()
	}
	for range 8 {
		if !<-done {
			t.Error("another answer")
		}
	}
}
