package machine_test

import (
	"strings"
	"testing"

	"shuck/api"
)

// says holds what a program prints of lines of input.
func says(t *testing.T, text string, inputs []string, want ...string) {
	t.Helper()
	got := agrees(t, text, read(t, text), inputs, plenty, plenty)
	if got.err != api.OK || got.End != api.EndDone || lines(got.Outputs) != lines(want) || len(got.Outputs) != len(want) {
		t.Errorf("%s, %q: %+v, not %q", text, inputs, got.short(), want)
	}
}

// P16.1: the lines of input, one by one; null behind the last one.
func TestInputs(t *testing.T) {
	three := "print(input(), input()); print(input());"
	says(t, three, nil, "null null", "null")
	says(t, three, []string{}, "null null", "null")
	says(t, three, []string{"a"}, "a null", "null")
	says(t, three, []string{"a", "", "c"}, "a ", "c")
	says(t, three, []string{"a", "b", "c", "d"}, "a b", "c")
	says(t, "", []string{"a"})
	says(t, tracing+"print(input(t(1), t(2)));", []string{"a"}, "1", "2", "a")
	says(t, "const f = input; const o = {m: f}; print(f(), o.m(), [f][0](), (() => f)()(), typeof f());", []string{"a", "b", "c", "d", "e"}, "a b c d string")
	says(t, "let x = input(); while (x !== null) { print(`<${x}>`, x.length); x = input(); }", []string{"", "é", "\xff\xfe", "\x00", "a\nb", "\"q\""}, "<> 0", "<é> 1", "<\xff\xfe> 2", "<\x00> 1", "<a\nb> 3", "<\"q\"> 3")
	says(t, "print([input(), input(), input()]);", []string{"a\xffb", "\n", "\xe2\x82"}, "[\"a\uFFFDb\", \"\\n\", \"\uFFFD\uFFFD\"]")
}

// P16.1: what is printed: each value as Show tells it, with one blank between; of nothing an empty text.
func TestOutputs(t *testing.T) {
	says(t, "print();", nil, "")
	says(t, `print("");  print("", ""); print("a", "", "b");`, nil, "", " ", "a  b")
	says(t, `print("a\nb", ["a\nb"], "q\"", ["q\""]);`, nil, "a\nb [\"a\\nb\"] q\" [\"q\\\"\"]")
	says(t, "print(1, -1, true, null, undefined, print, () => 1, [], {}, [undefined]);", nil, "1 -1 true null undefined function function [] {} [undefined]")
	says(t, "const o = {}; o.self = o; const l = [o]; l.push(l); print(o, l); print(l, o);", nil, "{self: {self: {self: ...}}} [{self: {self: ...}}, [{self: ...}, [..., ...]]]", "[{self: {self: ...}}, [{self: ...}, [..., ...]]] {self: {self: {self: ...}}}")
	says(t, "class A { v = 1; m() {} } class B extends A { w = this; } print(new B(), [new B(), A]);", nil, "{v: 1, w: {v: 1, w: {v: 1, w: ...}}} [{v: 1, w: {v: 1, w: ...}}, class]")
	says(t, "print(print(print(1), 2), 3);", nil, "1", "undefined 2", "undefined 3")
}

// P16.1: texts as long as they may be, and longer.
func TestLongTexts(t *testing.T) {
	most := strings.Repeat("a", api.MaxBytes)
	more := most + "b"
	two := []string{most, more}
	says(t, "print(input()); print(input());", two, most, more)
	says(t, "const x = input(); const y = input(); print([x]); print([y]); print(x.length, y.length, x === y, x < y, y[65536]);", two, "...", "...", "65536 65537 false true b")
	for text, end := range map[string]int{
		"const x = input(); print(`${x}`.length);":                       api.EndDone,
		"const x = input(); print(`${x}${\"\"}`.length);":                api.EndDone,
		"const x = input(); print(`${x} `.length);":                      api.EndHeap,
		"const x = input(); print(` ${x}`.length);":                      api.EndHeap,
		"const x = input(); print(`${x}${1}`.length);":                   api.EndHeap,
		"input(); const y = input(); print(`${y}`.length);":              api.EndHeap,
		"const x = input(); print(x + \"\", (\"\" + x).length);":         api.EndDone,
		"const x = input(); print((x + \"b\").length);":                  api.EndHeap,
		"const x = input(); print(x += 1);":                              api.EndHeap,
		"const x = input(); const o = {x: x}; o.x += 1; print(o);":       api.EndHeap,
		"const x = input(); const l = [x]; l[0] += 1; print(l);":         api.EndHeap,
		"input(); const y = input(); print((y + \"\").length);":          api.EndHeap,
		"const x = input(); print(`${[x]}${[x]}`.length, `${x in {}}`);": api.EndDone,
	} {
		text = strings.Replace(text, "const x", "let x", 1)
		if got := agrees(t, text, read(t, text), two, plenty, plenty); got.End != end || (len(got.Outputs) > 0) != (end == api.EndDone) {
			t.Errorf("%s: %+v", text, got.short())
		}
	}
	if got := agrees(t, "throw", read(t, "throw input();"), []string{more}, plenty, plenty); got.Thrown != more {
		t.Errorf("%+v", got.short())
	}
	if got := agrees(t, "throw", read(t, "throw [input()];"), []string{more}, plenty, plenty); got.Thrown != "..." {
		t.Errorf("%+v", got.short())
	}
}

// P16.1: a Str of any length is one; a Template that is one piece is not, if it is too long.
func TestLongPieces(t *testing.T) {
	for _, long := range []int{api.MaxBytes, api.MaxBytes + 1} {
		piece := node(api.Str, strings.Repeat("x", long))
		for kind, whole := range map[int]api.Tree{api.Str: piece, api.Template: node(api.Template, "", piece)} {
			x := node(api.Program, "", node(api.Eval, "", node(api.Call, "", name("print"), list(), list(whole))))
			want := api.EndDone
			if kind == api.Template && long > api.MaxBytes {
				want = api.EndHeap
			}
			got := agrees(t, "a piece", x, nil, plenty, plenty)
			if got.End != want || want == api.EndDone && len(got.Outputs[0]) != long {
				t.Errorf("%d of %d: %+v", kind, long, got.short())
			}
		}
	}
}
