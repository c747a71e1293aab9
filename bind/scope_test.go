package bind_test

import "testing"

// P7.1: the surroundings have print and input, and nothing else; what a program declares goes ahead of them.
func TestSurroundings(t *testing.T) {
	binds(t, "print(input());", "() => print;", "namespace N { print; }",
		"@1let print = 1; #1print; input;", "{ @1const input = 1; #1input; } input;", "@1function f(@2print) { #2print; input; } print; #1f;")
	refuses(t, offence{"Name", "@Print;"}, offence{"Name", "@prin;"}, offence{"Name", "@prints;"}, offence{"Name", "@console;"}, offence{"Name", "@number;"},
		offence{"Name", "@print; let print = 1;"})
}

// P7.1: each kind of scope: a name that is declared in it is known within it, and not outside it.
func TestScopes(t *testing.T) {
	binds(t,
		// The Program.
		"@1let a = 1; #1a; { #1a; } if (#1a) { #1a; } else { #1a; }",
		// A Block.
		"{ @1let a = 1; #1a; { #1a; } }",
		"if (1) { @1let a = 1; #1a; } else { @2let a = 1; #2a; }",
		"if (1) {} else if (2) { @1let a = 1; #1a; } else { @2let a = 1; #2a; }",
		"while (1) { @1let a = 1; #1a; }",
		"try { @1let a = 1; #1a; } finally { @2let a = 1; #2a; }",
		// A Func, a Method, a Ctor, an Arrow.
		"@2function f(@1a) { #1a; { #1a; } }",
		"class C { m(@1a) { #1a; } n(@2a) { #2a; } constructor(@3a, @4public b) { #3a; #4b; } }",
		"(@1a) => #1a;", "(@1a) => { #1a; };", "@1a => #1a;", "@1a => @2b => #1a + #2b;", "@1a => @2a => #2a;",
		"@1function f() { @2let a = 1; #2a; { #2a; } }",
		// A Catch.
		"try {} catch (e) {}", "try {} @1catch (e) { #1e; { #1e; } } finally {}",
		// A ForOf.
		"@1for (const a of input) { #1a; { #1a; } }",
		// A For.
		"for (@1let a = 1; #1a; #1a) { #1a; { #1a; } }",
		// A Namespace.
		"namespace N { @1let a = 1; #1a; { #1a; } }",
		"namespace N { export @1const a = 1; #1a; export @2function f() { #1!a; #2f; } }",
	)
	refuses(t,
		offence{"Name", "{ let a = 1; } @a;"},
		offence{"Name", "if (1) { let a = 1; } else { @a; }"},
		offence{"Name", "if (@a) { let a = 1; }"},
		offence{"Name", "if (1) { let a = 1; } else if (@a) {}"},
		offence{"Name", "while (@a) { let a = 1; }"},
		offence{"Name", "try { let a = 1; } finally { @a; }"},
		offence{"Name", "try { let a = 1; } catch (e) { @a; }"},
		offence{"Name", "function f(a) {} @a;"},
		offence{"Name", "function f(a) {} function g() { @a; }"},
		offence{"Name", "function f() { let a = 1; } @a;"},
		offence{"Name", "class C { m(a) {} n() { @a; } }"},
		offence{"Name", "class C { m(a) {} x = @a; }"},
		offence{"Name", "class C { constructor(public a) {} m() { @a; } }"},
		offence{"Name", "a => 1; @a;"},
		offence{"Name", "[a => 1, @a];"},
		offence{"Name", "(a) => { let b = 1; }; @b;"},
		offence{"Name", "try {} catch (e) {} @e;"},
		offence{"Name", "try {} catch (e) {} finally { @e; }"},
		offence{"Name", "try { @e; } catch (e) {}"},
		offence{"Name", "for (const a of @a) {}"},
		offence{"Name", "for (const a of input) {} @a;"},
		offence{"Name", "for (const a of () => @a) {}"},
		offence{"Name", "for (let i = 0; ; ) {} @i;"},
		offence{"Name", "for (; @a; ) { let a = 1; }"},
		offence{"Name", "for (; ; @a) { let a = 1; }"},
		offence{"Name", "for (let i = @a; ; ) { let a = 1; }"},
		offence{"Name", "namespace N { let a = 1; } @a;"},
		offence{"Name", "namespace N { export const a = 1; } @a;"},
		offence{"Name", "namespace N { export const a = 1; } namespace M { @a; }"},
		offence{"Name", "enum E { A, B = @A }"},
		offence{"Name", "enum E { A } @A;"},
		offence{"Name", "class C { x = 1; m() { @x; } }"},
		offence{"Name", "class C { x = 1; m() { @m; } }"},
	)
}

// P7.1: the innermost scope that has the name counts, wherever in it the declaration stands.
func TestInnermost(t *testing.T) {
	binds(t,
		"@1let a = 1; { @2let a = 1; #2a; { @3let a = 1; #3a; } #2a; } #1a;",
		"@1let a = 1; @2function f(@3a) { #3a; { @4let a = 1; #4a; } #3a; } #1a;",
		"@1let a = 1; @2function f() { { #3a; } @3function a() {} } #1a;",
		"@1let a = 1; (@2a) => (@3a) => #3a; #1a;",
		"@1let e = 1; try { #1e; } @2catch (e) { #2e; { @3let e = 1; #3e; } #2e; } finally { #1e; }",
		"@1let a = 1; @2for (const a of #1a) { #2a; } #1a;",
		"@1let a = 1; @2for (const a of #1a) { @3let a = 1; #3a; } #1a;",
		"@1let a = 1; @2for (const a of [@4a => #4a, () => #1!a]) { #2a; } #1a;",
		"@1let a = 1; for (@2let a = 1; #2a; #2a) { #2a; @3let b = 1; #3b; } #1a;",
		"@1let a = 1; for (@2let a = 1; #2a; #2a) { @3let a = 1; #3a; } #1a;",
		"@1let a = 1; for (; #1a; #1a) { @3let a = 1; #3a; } #1a;",
		"@1let a = 1; namespace N { @2let a = 1; #2a; namespace M { export @3const a = 1; #3a; } #2a; } #1a;",
		"@1let a = 1; while (#1a) { @2let a = 1; #2a; } #1a;",
		"@1class a {} { #2a; @2function a() {} } #1a;",
	)
}

// P7.1: each kind of declaration lays its name where it stands, also within Export.
func TestDeclarations(t *testing.T) {
	binds(t,
		"@1let a = 1; #1a;", "@1const a = 1; #1a;", "@1function a() {} #1a;", "@1class a {} #1a;", "@1enum a {} #1a;", "@1const enum a {} #1a;", "@1namespace a {} #1a;",
		"{ @1let a = 1; #1a; }", "{ @1const a = 1; #1a; }", "{ @1function a() {} #1a; }", "{ @1class a {} #1a; }", "{ @1enum a {} #1a; }", "{ @1const enum a {} #1a; }", "{ @1namespace a {} #1a; }",
		"namespace N { export @1const a = 1; #1a; }", "namespace N { export @1function a() {} #1a; }", "namespace N { export @1class a {} #1a; }",
		"namespace N { export @1enum a {} #1a; }", "namespace N { export @1namespace a {} #1a; }",
		"namespace N { @1let a = 1; #1a; }", "namespace N { @1const a = 1; #1a; }", "namespace N { @1function a() {} #1a; }", "namespace N { @1class a {} #1a; }", "namespace N { @1enum a {} #1a; }", "namespace N { @1const enum a {} #1a; }", "namespace N { @1namespace a {} #1a; }",
		"@1function f(@2a, @3b) { #2a; #3b; }", "class C { constructor(@1a) { #1a; } }",
		"class C { constructor(@1public a, @2readonly b, @3public readonly c?) { #1a; #2b; #3c; } }",
		"try {} @1catch (a) { #1a; }", "@1for (let a of input) { #1a; }", "@1for (const a of input) { #1a; }",
	)
}

// P7.1: a use is each Name, whatever it stands in, and each Base.
func TestUses(t *testing.T) {
	binds(t,
		"@1let a = 1; #1a; #1a + #1a; -#1a; #1a ? #1a : #1a; [#1a, [#1a]]; #1a[#1a]; #1a.b.c; (#1a as T); #1a!; #1a(#1a, #1a)(#1a); throw #1a;",
		"@1let a = 1; [{p: #1a, q: {r: #1a}}];",
		"@1let a = 1; [{#1a}];", "@1let a = 1; `${#1a}b${#1a + `${#1a}`}`;",
		"@1class A {} new #1A(); new #1A(#1A).b; new #1A.b.c(); new #1A.b(new #1A());",
		"@1let a = 1; #1a = #1a; #1a += 1; #1a.b = 1; #1a[#1a] = #1a; #1a.b.c = 1; #1a = #1a = #1a;",
		"@1class A {} @2class B #1extends A {} @3class C #2extends B { x = #2!B; }",
		"@1class A {} { class B #1extends A { constructor() { super(#1!A); super.m(#1!A); } } }",
		"@1let a = 1; let b = #1a; enum E { A = #1a, B = #1a + 1 }", "@1let a = 1; if (#1a) {} while (#1a) {} for (const b of #1a) {}",
		"@1let a = 1; @2function f() { return #1!a; }", "@1function f() { return #1f; }", "try { throw print; } finally { print; }",
		"@1let a = 1; typeof #1a === `b`; #1a in #1a; #1a && #1a || !#1a;",
	)
	// What is no Name: members, props, texts, an Enum's members, a Class's.
	binds(t, "print.a.b; [{a: 1}]; `a`; \"a\"; enum E { a } class C { a = 1; b; c() {} }")
	refuses(t,
		offence{"Name", "[{@a}];"}, offence{"Name", "new @A();"}, offence{"Name", "new @A.b.c();"}, offence{"Name", "@a = 1;"}, offence{"Name", "@a.b = 1;"}, offence{"Name", "print[@a] = 1;"},
		offence{"Name", "@a += 1;"}, offence{"Base", "class C @extends D {}"}, offence{"Name", "`${@a}`;"}, offence{"Name", "@a!;"}, offence{"Name", "@a as T;"}, offence{"Name", "throw @a;"},
		offence{"Name", "@a();"}, offence{"Name", "print(@a);"}, offence{"Name", "class C { x = @a; }"}, offence{"Name", "enum E { A = @a }"}, offence{"Name", "() => @a;"},
	)
}
