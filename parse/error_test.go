package parse_test

import (
	"strings"
	"testing"

	"shuck/api"
	"shuck/tree"
)

func readings() []reading { return []reading{program(), expr(), typ()} }

// fails holds a text against an error and its byte, of each call.
func fails(t *testing.T, text string, at int, want api.Errno) {
	t.Helper()
	for _, r := range readings() {
		if x, n, e := r.call([]byte(text)); e != want || n != at || x.Nodes != nil {
			t.Errorf("%s(%.40q..): %v, %d, %v, want %d, %v", r.word, text, x, n, e, at, want)
		}
	}
}

// P4.1, P4.2: chapter 2's errors, ahead of all others, with their byte.
func TestTokenErrors(t *testing.T) {
	fails(t, "1a", 0, api.ErrToken)
	fails(t, "a ; /* x", 4, api.ErrToken)
	fails(t, "if if ) é", 8, api.ErrToken)
	fails(t, "a + 'x", 4, api.ErrToken)
	fails(t, "`${a}", 4, api.ErrToken)
	expr().refused(t, "`${a", "`${", "`${a}${b")
	fails(t, strings.Repeat("(", api.MaxDepth+1)+" #", api.MaxDepth+2, api.ErrToken)
	fails(t, strings.Repeat(" ", api.MaxBytes+1), 0, api.ErrBytes)
	fails(t, "#"+strings.Repeat(" ", api.MaxBytes), 0, api.ErrBytes)
	fails(t, strings.Repeat(";", api.MaxTokens+1), api.MaxTokens, api.ErrTokens)
	fails(t, strings.Repeat("( ", api.MaxTokens+1), 2*api.MaxTokens, api.ErrTokens)
	fails(t, strings.Repeat("(", api.MaxTokens)+"#", api.MaxTokens, api.ErrToken)
}

// P4.1, P4.2: ErrDeep one bracket above MaxDepth, ahead of ErrSyntax.
func TestDeepErrors(t *testing.T) {
	const n = api.MaxDepth
	fails(t, strings.Repeat("(", n+1), n, api.ErrDeep)
	fails(t, strings.Repeat("( ", 2*n), 2*n, api.ErrDeep)
	fails(t, "if if "+strings.Repeat("(", n+1), 6+n, api.ErrDeep)
	fails(t, strings.Repeat("[", n)+" {", n+1, api.ErrDeep)
	fails(t, strings.Repeat("(", n)+"a`b${c}`", n+1, api.ErrDeep)
	fails(t, strings.Repeat("(", n+1)+"a"+strings.Repeat(")", n+1), n, api.ErrDeep)
	fails(t, strings.Repeat("{", n+1)+strings.Repeat("}", n+1), n, api.ErrDeep)
	fails(t, ")))"+strings.Repeat("(", n+1), n+3, api.ErrDeep)
	for _, r := range readings() {
		r.refused(t, strings.Repeat("(", n), strings.Repeat("[", n), strings.Repeat("(", n)+strings.Repeat(")", n+1))
	}
	expr().fits(t, strings.Repeat("(", n)+"a"+strings.Repeat(")", n), "a")
	typ().fits(t, strings.Repeat("(", n)+"A"+strings.Repeat(")", n), ":A")
	typ().fits(t, strings.Repeat("{a: ", n)+"A"+strings.Repeat("}", n), strings.Repeat("TypeObject [TypeProp a [", n)+":A"+strings.Repeat("]]", n))
	expr().fits(t, strings.Repeat("`${", n)+"a"+strings.Repeat("}`", n), strings.Repeat("Template [Str , ", n)+"a"+strings.Repeat(", Str ]", n))
	expr().fits(t, strings.Repeat("[", n)+strings.Repeat("]", n), strings.Repeat("Array [", n-1)+"Array"+strings.Repeat("]", n-1))
	program().fits(t, strings.Repeat("{", n)+strings.Repeat("}", n), "Program ["+strings.Repeat("Block [", n-1)+"Block"+strings.Repeat("]", n-1)+"]")
	program().fits(t, strings.Repeat("f(", n)+strings.Repeat(")", n)+";", "Program [Eval ["+strings.Repeat("Call [f, L, L [", n-1)+"Call [f, L, L]"+strings.Repeat("]]", n-1)+"]]")
	// One behind the other they are not deep.
	program().fits(t, strings.Repeat("{}", 2*n), "Program ["+strings.Repeat("Block, ", 2*n-1)+"Block]")
}

// P4.1, P4.2: no bytes at all, nil or empty.
func TestNoBytes(t *testing.T) {
	for _, b := range [][]byte{nil, {}, []byte(" \n"), []byte("/* */")} {
		x, at, e := program().call(b)
		if e != api.OK || at != 0 || len(x.Nodes) != 1 || x.Nodes[0].Kind != api.Program || len(x.Nodes[0].Kids) != 0 || x.Nodes[0].At != 0 {
			t.Errorf("%q: %v, %d, %v", b, x, at, e)
		}
		expr().refused(t, string(b))
		typ().refused(t, string(b))
	}
}

// P4.1, P4.2: a thing of one call is none of another.
func TestEachItsOwn(t *testing.T) {
	program().refused(t, "a", "A[]", "a = b")
	expr().refused(t, "a;", ";", "A[]", "| A", "let a = 1;")
	typ().refused(t, "A;", "a + b", "f()", "a => b", "let a = 1;")
	expr().fits(t, "{}", "Object")
	typ().fits(t, "{}", "TypeObject")
	program().fits(t, "{}", "Program [Block]")
}

// P4.1, P4.2: as many tokens as there may be, and things that nest without a bracket.
func TestMostTokens(t *testing.T) {
	const n = api.MaxTokens
	for _, c := range []struct {
		r     reading
		text  string
		nodes int
		depth int
	}{
		{program(), strings.Repeat(";", n), n + 1, 1},
		{expr(), strings.Repeat("!", n-1) + "a", n, n - 1},
		{expr(), "a" + strings.Repeat("!", n-1), n, n - 1},
		{expr(), strings.Repeat("a=", n/2-1) + "a", n - 1, n/2 - 1},
		{expr(), strings.Repeat("a=>", n/2-1) + "a", 5*(n/2-1) + 1, n/2 + 1},
		{expr(), strings.Repeat("a?b:", n/4-1) + "a", 3*(n/4-1) + 1, n/4 - 1},
		{expr(), "a" + strings.Repeat(".a", n/2-1), n / 2, n/2 - 1},
		{expr(), strings.Repeat("a+", n/2-1) + "a", n - 1, n/2 - 1},
		{expr(), "a" + strings.Repeat(" as a", n/2-1), 1 + 3*(n/2-1), n/2 - 1 + 1},
		{expr(), "a" + strings.Repeat("()", n/2-1), 1 + 3*(n/2-1), n/2 - 1},
		{typ(), "a" + strings.Repeat("[]", n/2-1), 1 + 1 + n/2 - 1, n/2 - 1 + 1},
		{typ(), strings.Repeat("a<", n/3) + "a" + strings.Repeat(">", n/3), 2 * (n/3 + 1), 2*(n/3) + 1},
		{typ(), strings.Repeat("()=>", n/3) + "a", 2*(n/3) + 2, n/3 + 1},
		{typ(), "a" + strings.Repeat(".a", n/2-1), 2, 1},
		{typ(), strings.Repeat("a|", n/2-1) + "a", n + 1, 2},
		{program(), "if (a) {}" + strings.Repeat(" else if (a) {}", n/7-1), 1 + 3*(n/7) + 1, n/7 + 1},
		{program(), strings.Repeat("namespace a {", 64) + strings.Repeat("}", 64), 65, 64},
	} {
		x, at, e := c.r.call([]byte(c.text))
		if e != api.OK || at != 0 || len(x.Nodes) != c.nodes {
			t.Errorf("%s(%.20q..): %d nodes, %d, %v, want %d", c.r.word, c.text, len(x.Nodes), at, e, c.nodes)
		} else if d := tree.Depth(x); d != c.depth {
			t.Errorf("%s(%.20q..): depth %d, want %d", c.r.word, c.text, d, c.depth)
		}
	}
}
