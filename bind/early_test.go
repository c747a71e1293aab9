package bind_test

import (
	"strings"
	"testing"
)

// P7.1, 3: a use just ahead of a declaration, within it, just behind it.
func TestEarly(t *testing.T) {
	refuses(t,
		// Ahead.
		offence{"Name", "@x; let x = 1;"}, offence{"Name", "@x; const x = 1;"}, offence{"Name", "@x; class x {}"}, offence{"Name", "@x; enum x {}"}, offence{"Name", "@x; const enum x {}"}, offence{"Name", "@x; namespace x {}"},
		offence{"Name", "{ @x; } let x = 1;"}, offence{"Name", "while (@x) {} let x = 1;"}, offence{"Name", "let y = @x; let x = 1;"}, offence{"Name", "new @x(); class x {}"}, offence{"Base", "class y @extends x {} class x {}"},
		offence{"Name", "@x = 1; let x = 1;"}, offence{"Name", "@x.y = 1; let x = 1;"}, offence{"Name", "enum y { A = @x } let x = 1;"}, offence{"Name", "namespace N { @x; } let x = 1;"},
		offence{"Name", "namespace N { @x; export const x = 1; }"}, offence{"Name", "namespace N { @x; export class x {} }"}, offence{"Name", "namespace N { @x; export enum x {} }"}, offence{"Name", "namespace N { @x; export namespace x {} }"},
		offence{"Name", "let x = 1; { @x; let x = 2; }"}, offence{"Name", "let x = 1; namespace N { @x; let x = 2; }"}, offence{"Name", "while (1) { @x; let x = 1; }"}, offence{"Name", "for (const y of @x) {} let x = 1;"},
		offence{"Name", "for (let i = @x; ; ) {} let x = 1;"}, offence{"Name", "function f() { @x; let x = 1; }"}, offence{"Name", "() => { @x; class x {} };"}, offence{"Name", "class C { m() { @x; enum x {} } }"}, offence{"Name", "class C { constructor() { @x; namespace x {} } }"},
		offence{"Name", "try { @x; let x = 1; } finally {}"}, offence{"Name", "try {} catch (e) { @x; let x = 1; }"},
		offence{"Name", "class C { x = () => { @y; let y = 1; }; }"},
		// Within.
		offence{"Name", "let x = @x;"}, offence{"Name", "const x = [1, @x];"}, offence{"Name", "let x = 1 + (@x as T);"}, offence{"Base", "class x @extends x {}"}, offence{"Name", "enum x { A = @x }"}, offence{"Name", "const enum x { A, B = @x.A }"},
		offence{"Name", "namespace x { @x; }"}, offence{"Name", "namespace x { export const y = @x; }"}, offence{"Name", "namespace x { namespace y { { @x; } } }"}, offence{"Base", "namespace x { class y @extends x {} }"},
		offence{"Name", "for (let i = @i; ; ) {}"}, offence{"Name", "let i = 1; for (let i = @i; ; ) {}"}, offence{"Name", "let x = 1; { let x = @x; }"}, offence{"Name", "let x = 1; function f() { let x = @x; }"},
		offence{"Name", "namespace N { export const x = @x; }"}, offence{"Name", "namespace N { export enum x { A = @x } }"}, offence{"Base", "namespace N { export class x @extends x {} }"}, offence{"Name", "namespace N { export namespace x { @x; } }"},
		offence{"Name", "let x = @x = 1;"}, offence{"Name", "let x = (@x.y = 1);"},
	)
	binds(t,
		// Just behind.
		"@1let x = 1; #1x;", "@1class x {} #1x;", "@1enum x { A = 1 } #1x;", "@1const enum x { A = 1 } #1x;", "@1namespace x { export const y = 1; } #1x;",
		"@1class x { y = 1; m() {} } class y #1extends x {}", "for (@1let i = 0; #1i; ) {}", "for (@1let i = 0; ; ) { #1i; }", "namespace N { export @1const y = 1; #1y; export @2class z {} #2z; export @3enum e {} #3e; export @4namespace m {} #4m; }",
		"@1let x = 1; { #1x; { let y = #1x; } } namespace N { #1x; } enum E { A = #1x }", "while (1) { @1let x = 1; #1x; }",
		// What has its value at once is never used too early.
		"#1f; @1function f() {}", "{ #1f; } @1function f() { #1f; }", "namespace N { #1f; export @1function f() {} }", "@2function g(@1a) { #1a; }", "try {} @1catch (e) { #1e; }", "@1for (const x of print) { #1x; }",
		"let x = #1f(); @1function f() {}", "class C { m() { #1f; @1function f() {} } }",
	)
}

// P7.1, 3: a function between makes it Late instead, ahead, within and behind.
func TestLate(t *testing.T) {
	for _, function := range []string{"() => *;", "() => { *; };", "function f() { *; }", "class C { m() { *; } }", "class C { constructor() { *; } }", "class C { y = *; }", "class C { y = [*]; }", "class C { y = () => *; }", "class C { m() { { while (1) { *; } } } }",
		"function f() { namespace N { *; } }", "(a) => [{p: *}];", "function f() { class D #1!extends x {} *; }", "() => () => *;", "function f() { return *; }", "{ { [() => *]; } }", "namespace N { export function f() { *; } }", "namespace N { () => *; }",
		"class C { m() { class D { y = *; } } }", "function f() { enum E { A = * } }", "function f() { let y = *; }", "function f() { for (const y of *) {} }", "function f() { for (let y = *; ; ) {} }",
	} {
		use := strings.ReplaceAll(function, "*", "#1!x")
		for _, d := range []string{"@1let x = 1;", "@1const x = 1;", "@1class x {}", "@1enum x {}", "@1const enum x {}", "@1namespace x {}"} {
			binds(t, use+" "+d, d+" "+use, "{ "+use+" "+d+" }", "namespace M { "+use+" "+d+" }", "() => { "+use+" "+d+" };", "class B { n() { "+d+" "+use+" } }", d+" { "+use+" }")
		}
		binds(t, "@1namespace x { "+use+" }", "namespace M { export @1namespace x { "+use+" } }", "namespace M { export @1class x {} "+use+" }")
		// A Func, a Param, a Catch, a ForOf, what the surroundings have: never Late.
		use = strings.ReplaceAll(strings.ReplaceAll(function, "*", "#1x"), "#1!", "#1")
		binds(t, use+" @1function x() {}", "@1function x() { "+use+" }", "namespace M { "+use+" export @1function x() {} }", "@2function g(@1x) { "+use+" }", "class B { n(@1x) { "+use+" } }", "class B { constructor(@1x) { "+use+" } }",
			"(@1x) => { "+use+" };", "try {} @1catch (x) { "+use+" }", "@1for (const x of print) { "+use+" }", "@1for (let x of print) { "+use+" }")
		binds(t, strings.ReplaceAll(strings.ReplaceAll(strings.ReplaceAll(function, "*", "print"), "extends x", "extends print"), "#1!", ""))
	}
	binds(t,
		// Within a Var, a Class.
		"@1let x = () => #1!x;", "@1let x = [() => { #1!x; }];", "@1const x = (@2a) => #1!x + #2a;", "for (@1let i = () => #1!i; ; ) {}",
		"@1class x { m() { #1!x; } }", "@1class x { constructor() { #1!x; } }", "@1class x { y = #1!x; }", "@1class x { y = new #1!x(); }", "@1class x { y = () => #1!x; }", "@1class x { m() { class y #1!extends x {} } }",
		"@1enum x { A = () => #1!x }", "@1enum x { A = (() => { return #1!x; })() }",
		// The function is not between, if the declaration stands beneath it too.
		"() => { @1let x = 1; #1x; () => #1!x; };", "@2function f() { @1class x {} #1x; { #1x; } class y { m() { #1!x; } z = #1!x; } }", "() => () => { @1let x = 1; #1x; };", "@1let y = 1; () => { @2let x = #1!y; #2x; () => #2!x + #1!y; };",
		"class C { m() { @1enum x {} #1x; } }", "class C { y = () => { @1let x = 1; #1x; }; }", "for (@1let i = 0; () => #1!i; #1i) { #1i; () => #1!i; }",
	)
}

// P7.1, 3: a Namespace and a Block are no functions, a class by itself is none.
func TestNotBetween(t *testing.T) {
	binds(t, "@1let x = 1; namespace N { #1x; namespace M { #1x; } } { #1x; } class C #1extends x {} enum E { A = #1x }")
	refuses(t, offence{"Name", "namespace N { @x; } class x {}"}, offence{"Base", "{ class C @extends x {} } class x {}"}, offence{"Name", "namespace N { namespace M { @N; } }"})
}
