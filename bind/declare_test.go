package bind_test

import (
	"strings"
	"testing"
)

// declarations are the forms of a statement that declares a name, a.
func declarations() []offence {
	return []offence{
		{"Var", "let a = 1;"}, {"Var", "const a = 1;"}, {"Func", "function a() {}"}, {"Class", "class a {}"},
		{"Enum", "enum a {}"}, {"Enum", "const enum a {}"}, {"Namespace", "namespace a {}"},
	}
}

// P7.1, 1: a second declaration of a name in one scope, of any two kinds.
func TestTwice(t *testing.T) {
	for _, first := range declarations() {
		for _, second := range declarations() {
			text := first.text + " @" + second.text
			for _, scope := range []string{"*", "{ * }", "namespace N { * }", "function f() { * }", "() => { * };", "while (1) { * }", "try {} catch (e) { * }", "for (const b of print) { * }", "for (let b = 1; ; ) { * }", "if (1) { * }", "class C { m() { * } }", "class C { constructor() { * } }"} {
				refuses(t, offence{second.word, strings.Replace(scope, "*", text, 1)})
				refuses(t, offence{second.word, strings.Replace(scope, "*", first.text+" let b = 1; { let a = 1; } @"+second.text, 1)})
			}
			takes(t, first.text+" { "+second.text+" }", "{ "+first.text+" } "+second.text, "{ "+first.text+" } { "+second.text+" }",
				"namespace N { "+first.text+" } namespace M { "+second.text+" }", first.text+" namespace N { "+second.text+" }",
				first.text+" function f() { "+second.text+" }")
		}
	}
}

// P7.1, 1: within Export too.
func TestTwiceExported(t *testing.T) {
	for _, first := range declarations() {
		for _, second := range declarations() {
			if strings.HasPrefix(second.text, "let") || strings.HasPrefix(second.text, "const enum") {
				continue
			}
			refuses(t, offence{second.word, "namespace N { " + first.text + " export @" + second.text + " }"})
			takes(t, first.text+" namespace N { export "+second.text+" } ", "namespace N { { "+first.text+" } export "+second.text+" }")
			if strings.HasPrefix(first.text, "let") || strings.HasPrefix(first.text, "const enum") {
				continue
			}
			refuses(t, offence{second.word, "namespace N { export " + first.text + " export @" + second.text + " }"})
			refuses(t, offence{second.word, "namespace N { export " + first.text + " @" + second.text + " }"})
		}
	}
}

// P7.1, 1: the second of three is told, and the third of them if the second is within.
func TestThrice(t *testing.T) {
	refuses(t,
		offence{"Var", "let a = 1; @let a = 2; let a = 3;"},
		offence{"Func", "let a = 1; { let a = 2; } @function a() { let a = 1; } let a = 4;"},
		offence{"Var", "let a = 1; function f() { let b = 1; @let b = 2; } let a = 4;"},
	)
}

// P7.1, 1: Params of one name; not those of several functions.
func TestParamsTwice(t *testing.T) {
	refuses(t,
		offence{"Param", "function f(a, @a) {}"}, offence{"Param", "function f(a, b, @a, b) {}"}, offence{"Param", "(a, @a) => 1;"}, offence{"Param", "(a, @a?) => {};"},
		offence{"Param", "class C { m(a, @a) {} }"}, offence{"Param", "class C { constructor(a, @a) {} }"}, offence{"Param", "class C { constructor(public a, @readonly a) {} }"},
	)
	takes(t, "function f(a) {} function g(a) {}", "(a) => (a) => 1;", "class C { m(a) {} n(a) {} constructor(a) {} }", "function f(f) {}", "class C { m(m, C) {} }", "let a = 1; (a) => 1;")
}

// P7.1, 1: a name of the Params, or of the Catch, in the Block that is the body, as a statement of it.
func TestBody(t *testing.T) {
	// A ForOf is a declaration and a statement, though its name is in its own scope.
	for _, d := range append(declarations(), offence{"ForOf", "for (const a of print) {}"}, offence{"ForOf", "for (let a of print) { a; }"}) {
		for _, body := range []string{"function f(b, a) { * }", "(a) => { * };", "a => { * };", "class C { m(a) { * } }", "class C { constructor(a, b) { * } }", "class C { constructor(public a) { * } }", "class C { x = (a) => { * }; }", "try {} catch (a) { * }", "try {} catch (a) { * } finally {}"} {
			refuses(t, offence{d.word, strings.Replace(body, "*", "@"+d.text, 1)})
			refuses(t, offence{d.word, strings.Replace(body, "*", "let c = 1; { let a = 1; } @"+d.text, 1)})
			// In a Block within, and in all that has a scope of its own, it may.
			for _, within := range []string{"{ * }", "if (1) { * }", "while (1) { * }", "for (; ; ) { * }", "for (const c of print) { * }", "try { * } finally { * }", "try {} catch (e) { * }", "namespace N { * }", "() => { * };", "function g() { * }"} {
				takes(t, strings.Replace(body, "*", strings.ReplaceAll(within, "*", d.text), 1))
			}
			takes(t, strings.Replace(body, "*", "for (let a = 1; ; ) {}", 1), strings.Replace(body, "*", "{ for (const a of print) {} }", 1), strings.Replace(body, "*", "(a) => 1;", 1), strings.Replace(body, "*", "try {} catch (a) {}", 1))
		}
		// These Blocks are no bodies of a function or a Catch.
		takes(t, "for (const a of print) { "+d.text+" }", "for (let a of print) { "+d.text+" }", "for (let a = 1; ; ) { "+d.text+" }", "namespace a { "+d.text+" }", "class a { m() { "+d.text+" } }", "function a() { "+d.text+" }",
			"try { "+d.text+" } catch (a) {}", "try {} catch (a) {} finally { "+d.text+" }", "function f(a) {} { "+d.text+" }")
	}
	// The one about the function is another scope.
	takes(t, "let a = 1; for (const a of a) {}", "let a = 1; { for (const a of a) {} }", "(a) => () => { for (const a of a) {} };", "for (const a of print) { for (const a of a) {} }", "for (let a = 1; ; ) { for (const a of a) {} }", "function f() { let a = 1; for (const a of a) {} }")
	takes(t, "(a) => () => { let a = 1; };", "function f(a) { () => { let a = 1; }; }", "function f(a) { try {} catch (e) { let a = 1; } }", "try {} catch (a) { () => { let a = 1; }; }",
		"class C { m(a) { class D { n() { let a = 1; } } } }")
}

// P7.1, 1: the declaration in the body is the innermost all the same: what stands ahead of it is too early.
func TestBodyHasIt(t *testing.T) {
	refuses(t,
		offence{"Name", "function f(a) { @a; let a = 1; }"},
		offence{"Func", "function f(a) { a; @function a() {} }"},
		offence{"Var", "function f(a) { () => a; @let a = 1; }"},
		offence{"Name", "try {} catch (e) { @e; const e = 1; }"},
		offence{"ForOf", "function f(a) { a; @for (const a of b) {} }"},
	)
}

// P7.1: of two declarations in one scope the first is what a use stands for.
func TestFirstCounts(t *testing.T) {
	refuses(t,
		// Else the x would be used too early, ahead of the second.
		offence{"Var", "let x = 1; x; @let x = 2;"},
		offence{"Func", "let x = 1; x = 2; @function x() {}"},
		offence{"Assign", "const x = 1; @x = 2; let x = 2;"},
		offence{"Name", "@x; let x = 1; function x() {}"},
		offence{"Var", "x; function x() {} @let x = 1;"},
		offence{"Assign", "@x = 1; function x() {} let x = 1;"},
	)
}
