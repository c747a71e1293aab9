package print_test

import (
	"testing"
)

// P6.1: each line of 'A statement's text'.
func TestStatementText(t *testing.T) {
	program().all(t,
		"Program", "",
		"Program [Var x [-, a]]", "let x = a;\n",
		"Program [Var x Const [-, a]]", "const x = a;\n",
		"Program [Eval [a]]", "a;\n",
		"Program [Return [a]]", "return a;\n",
		"Program [Return [-]]", "return;\n",
		"Program [Throw [a]]", "throw a;\n",
		"Program [Break]", "break;\n",
		"Program [Continue]", "continue;\n",
		"Program [Empty]", ";\n",
		"Program [Block]", "{}\n",
		"Program [Block [Empty]]", "{\n  ;\n}\n",
		"Program [Func f [L, L, -, Block]]", "function f() {}\n",
		"Program [Func f [L, L [Param p [-]], -, Block [Return [p]]]]", "function f(p) {\n  return p;\n}\n",
		"Program [Func f [L, L [Param p [-], Param q [-]], -, Block]]", "function f(p, q) {}\n",
		"Program [If [a, Block, -]]", "if (a) {}\n",
		"Program [If [a, Block [Eval [b]], -]]", "if (a) {\n  b;\n}\n",
		"Program [If [a, Block, Block]]", "if (a) {} else {}\n",
		"Program [If [a, Block [Break], Block [Continue, Empty]]]", "if (a) {\n  break;\n} else {\n  continue;\n  ;\n}\n",
		"Program [If [a, Block, If [b, Block, If [c, Block, Block]]]]", "if (a) {} else if (b) {} else if (c) {} else {}\n",
		"Program [If [a, Block, Block [If [b, Block, -]]]]", "if (a) {} else {\n  if (b) {}\n}\n",
		"Program [While [a, Block]]", "while (a) {}\n",
		"Program [While [a, Block [Eval [b], Eval [c]]]]", "while (a) {\n  b;\n  c;\n}\n",
		"Program [For [Var i [-, a], b, c, Block]]", "for (let i = a; b; c) {}\n",
		"Program [For [Var i [-, a], b, c, Block [Empty]]]", "for (let i = a; b; c) {\n  ;\n}\n",
		"Program [ForOf x [a, Block]]", "for (let x of a) {}\n",
		"Program [ForOf x Const [a, Block [Eval [x]]]]", "for (const x of a) {\n  x;\n}\n",
		"Program [Try [Block, Catch x [Block], -]]", "try {} catch (x) {}\n",
		"Program [Try [Block, -, Block]]", "try {} finally {}\n",
		"Program [Try [Block [Eval [a]], Catch x [Block [Eval [x]]], Block [Eval [b]]]]", "try {\n  a;\n} catch (x) {\n  x;\n} finally {\n  b;\n}\n",
		"Program [Class C [L, -, L, L]]", "class C {}\n",
		"Program [Class C [L, Base D [L], L, L]]", "class C extends D {}\n",
		"Program [Class C [L, -, L, L [Field x [-, a]]]]", "class C {\n  x = a;\n}\n",
		"Program [Class C [L, -, L, L [Method m [L, L, -, Block]]]]", "class C {\n  m() {}\n}\n",
		"Program [Class C [L, -, L, L [Method m [L, L [Param p [-], Param q [-]], -, Block [Return [p]]]]]]", "class C {\n  m(p, q) {\n    return p;\n  }\n}\n",
		"Program [Class C [L, -, L, L [Ctor [L, Block]]]]", "class C {\n  constructor() {}\n}\n",
		"Program [Class C [L, Base D [L], L, L [Field y [-, 1], Ctor [L [Param p [-], Param q [-]], Block [Eval [Super [L [p]]]]], Field x [-, Arrow [L, L, Block]]]]]",
		"class C extends D {\n  y = 1;\n  constructor(p, q) {\n    super(p);\n  }\n  x = () => {};\n}\n",
		"Program [Eval [a], Empty, Block, Eval [b]]", "a;\n;\n{}\nb;\n",
	)
}

// P6.1: a For with None in each place, and in each set of places.
func TestFor(t *testing.T) {
	for n := range 8 {
		line, text := "Program [For [", "for ("
		for i, part := range [][2]string{{"Var i [-, a]", "let i = a"}, {"b", "b"}, {"c", "c"}} {
			if n&(1<<i) != 0 {
				line += part[0]
				text += part[1]
			} else {
				line += "-"
			}
			line += ", "
			if i < 2 {
				text += "; "
			}
		}
		program().all(t, line+"Block]]", text+") {}\n")
	}
	program().all(t, "Program [For [-, -, -, Block]]", "for (; ; ) {}\n")
}

// P6.1: how deep statements stand: in Blocks, classes, and Arrows' Blocks.
func TestDepth(t *testing.T) {
	program().all(t,
		"Program [Block [Block [Block, Eval [a]], Eval [b]], Eval [c]]", "{\n  {\n    {}\n    a;\n  }\n  b;\n}\nc;\n",
		"Program [Eval [Arrow [L, L, Block [Empty]]]]", "() => {\n  ;\n};\n",
		"Program [Block [Eval [Call [f, L, L [Arrow [L, L, Block [Eval [a]]]]]]]]", "{\n  f(() => {\n    a;\n  });\n}\n",
		"Program [Block [Eval [Call [f, L, L [Arrow [L, L, Block [Eval [Arrow [L, L, Block [Eval [a]]]]]], Arrow [L, L, Block]]]]]]",
		"{\n  f(() => {\n    () => {\n      a;\n    };\n  }, () => {});\n}\n",
		"Program [If [Arrow [L, L, Block [Empty]], Block [Var x [-, Arrow [L, L, Arrow [L, L, Block [Empty]]]]], Block [While [a, Block [Empty]]]]]",
		"if (() => {\n  ;\n}) {\n  let x = () => () => {\n    ;\n  };\n} else {\n  while (a) {\n    ;\n  }\n}\n",
		"Program [Func f [L, L, -, Block [Func g [L, L, -, Block [Return [-]]]]]]", "function f() {\n  function g() {\n    return;\n  }\n}\n",
		"Program [Block [Class C [L, -, L, L [Field x [-, Arrow [L, L, Block [Class D [L, -, L, L [Method m [L, L, -, Block [Empty]]]]]]], Ctor [L, Block [Block]]]]]]",
		"{\n  class C {\n    x = () => {\n      class D {\n        m() {\n          ;\n        }\n      }\n    };\n    constructor() {\n      {}\n    }\n  }\n}\n",
		"Program [Block [Try [Block [Empty], Catch x [Block [Empty]], Block [Empty]]]]", "{\n  try {\n    ;\n  } catch (x) {\n    ;\n  } finally {\n    ;\n  }\n}\n",
		`Program [Block [Eval [Template [Str "\n", Arrow [L, L, Block [Empty]], Str "\n"]]]]`, "{\n  `\\n${() => {\n    ;\n  }}\\n`;\n}\n",
	)
	// An expression stands at the depth 0, whatever it is.
	expr().all(t,
		"Arrow [L, L, Block [Block [Empty], Return [Arrow [L, L, Block [Empty]]]]]", "() => {\n  {\n    ;\n  }\n  return () => {\n    ;\n  };\n}",
		"Call [Arrow [L, L, Block [Empty]], L, L]", "(() => {\n  ;\n})()",
	)
}
