package erase_test

import (
	"testing"

	"shuck/api"
	"shuck/print"
)

// P13.1: the examples of the chapter, as they stand there.
func TestExamples(t *testing.T) {
	for _, c := range []struct{ text, want string }{
		{`enum E { A, B = -2, C = "x" } print(E.B);`, "const E = {A: 0, B: -2, C: \"x\"};\nprint(E.B);\n"},
		{"const enum F { A = 3 } print(F.A, -F.A);", "print(3, -3);\n"},
		{"namespace N { let h = 1; export const a = h; export interface I {} }", "const N = (() => {\n  let h = 1;\n  const a = h;\n  return {a: a};\n})();\n"},
		{"class Q {} class P extends Q { constructor(public x: number) { super(); print(x); } }", "class Q {}\nclass P extends Q {\n  constructor(x) {\n    super();\n    this.x = x;\n    print(x);\n  }\n}\n"},
	} {
		got, why := agrees(t, c.text, read(t, c.text))
		if got.err != api.OK || got.node != -1 {
			t.Errorf("%s: %d, %v: %s", c.text, got.node, got.err, why)
			continue
		}
		if s, e := print.Program(got.left); s != c.want || e != api.OK {
			t.Errorf("%s:\n%s, %v, not\n%s", c.text, s, e, c.want)
		}
	}
}
