package bind_test

import "testing"

// P7.1, 4: what may be assigned to.
func TestAssign(t *testing.T) {
	binds(t,
		"@1let x = 1; #1x = 1; #1x += 1; #1x -= 1; #1x *= 1; #1x %= 1;", "@1let x = 1; () => #1!x = 1;", "{ @1let x = 1; { #1x = 1; } }", "for (@1let i = 0; ; #1i += 1) { #1i = 1; }", "namespace N { @1let x = 1; #1x = 1; }",
		"@1for (let x of print) { #1x = 1; () => #1x = 1; }", "@1function f(@2a) { #2a = 1; }", "(@1a) => #1a = 1;", "(@1a?) => { #1a += 1; };", "class C { m(@1a) { #1a = 1; } }", "class C { constructor(@1a) { #1a = 1; } }", "class C { constructor(@1readonly a) { #1a = 1; } }",
		"try {} @1catch (e) { #1e = 1; }",
		// Members and Indexes of anything.
		"@1const x = 1; #1x.y = 1; #1x[0] = 1; #1x.y.z += 1; print.y = 1; input[0] = 1; @2function f() {} #2f.y = 1; @3class C {} #3C.y = 1;",
		"@1const x = 1; @2let y = 1; #2y = #1x; [#2y = 1, #1x]; #1x.y = #2y = #1x;",
		"@1const x = 1; @2let y = 1; #1x[#2y = 1] = 1;",
	)
	refuses(t,
		offence{"Assign", "const x = 1; @x = 1;"}, offence{"Assign", "const x = 1; @x += 1;"}, offence{"Assign", "const x = 1; @x -= 1;"}, offence{"Assign", "const x = 1; @x *= 1;"}, offence{"Assign", "const x = 1; @x %= 1;"},
		offence{"Assign", "function f() {} @f = 1;"}, offence{"Assign", "@f = 1; function f() {}"}, offence{"Assign", "function f() { @f = 1; }"}, offence{"Assign", "class C {} @C = 1;"}, offence{"Assign", "class C { m() { @C = 1; } }"},
		offence{"Assign", "enum E {} @E = 1;"}, offence{"Assign", "const enum E {} @E = 1;"}, offence{"Assign", "namespace N {} @N = 1;"}, offence{"Assign", "namespace N { () => @N = 1; }"},
		offence{"Assign", "@print = 1;"}, offence{"Assign", "@input += 1;"}, offence{"Assign", "for (const x of print) { @x = 1; }"}, offence{"Assign", "namespace N { export const x = 1; @x = 1; }"}, offence{"Assign", "namespace N { export function f() {} @f = 1; }"},
		offence{"Assign", "() => @x = 1; const x = 1;"}, offence{"Assign", "let y = 1; const x = 1; y = @x = 1;"}, offence{"Assign", "const x = 1; print(@x = 1);"}, offence{"Assign", "let x = 1; function f(a) { const x = 1; @x = a; }"},
		offence{"Assign", "const x = 1; { let x = 1; x = 1; } @x = 1;"}, offence{"Assign", "let x = 1; for (const x of x) { @x = 1; }"}, offence{"Assign", "@x = 1; const x = 1;"},
		// Undeclared, or a Let too early: the Name itself.
		offence{"Name", "@x = 1;"}, offence{"Name", "@x += 1;"}, offence{"Name", "@x = 1; let x = 1;"}, offence{"Name", "let x = @x = 1;"}, offence{"Name", "for (let x of [@x = 1]) {}"},
		// Ahead of what offends in its value.
		offence{"Assign", "const x = 1; @x = y;"}, offence{"Name", "let x = 1; x = @y;"}, offence{"Name", "@x = y;"},
	)
}
