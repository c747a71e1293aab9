package erase_test

import (
	"strings"
	"testing"

	"shuck/api"
)

const constEnums = `const enum E { A, B = -2, C = "x", D = 7 } `

// P13.1: a Member of a Const Enum in every place of an expression; E.B is the one that is a Unary.
func TestConstPlaces(t *testing.T) {
	for _, place := range []string{
		"#;", "print(#);", "print(1, #, #);", "let x = #;", "const x = #;", "throw #;",
		"-#;", "!#;", "~#;", "typeof #;", "- -#;",
		"# + 1;", "1 - #;", "# * # % #;", "# === #;", "1 in #;", "# << #;", "# < #;", "# && # || #;",
		"# ? # : #;", "[#];", "[1, #, [#]];", "({a: #, b: #});", "`a${#}b${1 + #}`;", "`${#}`;",
		"#.length;", "#.A.B.C;", "#[0];", "print[#];", "#[#];", "#();", "#(#);", "#.A();", "#.A(#)[#]();", "new print(#);", "new print.A.B(#, #);",
		"print.A = #;", "print.A += #;", "#.A = 1;", "#[0] = 1;", "print[#] = #;", "#.A.B -= #;", "#.A[#].B = 1;", "#().A = 1;",
		"let f = () => #;", "let f = (a) => { return #; };", "function f() { return #; }", "function f() { { #; } }",
		"if (#) { #; } else if (#) { #; } else { #; }", "while (#) { #; }", "for (let i = #; #; #) { #; }", "for (const x of #) { #; }",
		"try { #; } catch (e) { #; } finally { #; }", "{ { #; } }",
		"class C { x = #; m() { return #; } constructor() { #; } }", "class B {} class C extends B { constructor() { super(#); #; } }", "class C { constructor(a) { a = #; } }",
		"({E: #});", "let x = {E: #}.E;", "print.E.A(#);", "(() => #)();",
	} {
		for _, value := range []struct{ member, value string }{{"E.A", "0"}, {"E.B", "(-2)"}, {"E.C", `"x"`}, {"E.D", "7"}} {
			gives(t, constEnums+strings.ReplaceAll(place, "#", value.member), strings.ReplaceAll(place, "#", value.value))
		}
	}
	// An As and a Bang about it, and types beside it.
	gives(t,
		constEnums+"(E.A as any).x; E.B!.y; (E.C as E)! as string;", `0.x; (-2).y; "x";`,
		constEnums+"let x: E = E.A; let y: E.A = E.A; function f(e: E): E.B { return E.B; } print<E, E.A>(E.D);", "let x = 0; let y = 0; function f(e) { return -2; } print(7);",
	)
}

// P13.1: Const Enums are left out, wherever they stand, used or not; their names may be others' then.
func TestConstLeftOut(t *testing.T) {
	gives(t,
		"const enum E {}", "",
		"const enum E { A }", "",
		"const enum E { A } const enum F { A } print(E.A, F.A);", "print(0, 0);",
		"print(1); const enum E { A } ; const enum F { A } input();", "print(1); ; input();",
		"{ const enum E { A = 1 } { const enum E { A = 2 } E.A; } E.A; } const enum E { A = 3 } E.A;", "{ { 2; } 1; } 3;",
		"function f() { const enum E { A = 1 } return E.A; } let g = () => { const enum E { A = 2 } return E.A; };", "function f() { return 1; } let g = () => { return 2; };",
		"if (1) { const enum E { A } E.A; } while (1) { const enum E { A } } for (;;) { const enum E { A } } for (const E of 1) { const enum F { A } }", "if (1) { 0; } while (1) {} for (;;) {} for (const E of 1) {}",
		"class C { m() { const enum E { A } E.A; } constructor() { const enum E { A } E.A; } x = () => { const enum E { A } E.A; }; }", "class C { m() { 0; } constructor() { 0; } x = () => { 0; }; }",
		"try { const enum E { A } E.A; } catch (e) { const enum E { A } } finally { const enum E { A } }", "try { 0; } catch (e) {} finally {}",
		"namespace N { const enum E { A = 4 } export const a = E.A; export function f() { return E.A; } }", "const N = (() => { const a = 4; function f() { return 4; } return {a: a, f: f}; })();",
		"namespace N { const enum E { A } }", "const N = (() => { return {}; })();",
		// Used ahead of it, within functions.
		"function f() { return E.A; } const enum E { A = 5 }", "function f() { return 5; }",
		"class C { x = E.A; m() { return () => E.A; } } const enum E { A = 5 }", "class C { x = 5; m() { return () => 5; } }",
		// Members of names that others have, of which one follows from another.
		"const enum E { E, print, A = -5, F, G } print(E.E, E.print, E.F, E.G);", "print(0, 1, -4, -3);",
		`const enum E { A = 9007199254740991, B = -9007199254740991, C = "", D = "é\n\"\u{0}" } print(E.A, E.B, E.C, E.D);`, `print(9007199254740991, -9007199254740991, "", "é\n\"\u{0}");`,
	)
}

// P13.1: names that shadow a Const Enum are themselves, and so are their Members; members of the same name of others too.
func TestConstShadowed(t *testing.T) {
	gives(t, constEnums+"print(E.A); { let E = 1; E; E.A; E.Z; E = 2; E.A = 1; new E.A(); } print(E.A);", "print(0); { let E = 1; E; E.A; E.Z; E = 2; E.A = 1; new E.A(); } print(0);")
	for _, shadow := range []string{
		"function f(E) { E; E.A; E.Z; E = 1; E.A = 1; new E(); }",
		"let f = (E) => E.A; let g = E => [E, E.Z];",
		"class C { m(E) { return E.A; } constructor(E) { E.A = E; } }",
		"for (let E = 1; E; E.A) { E.A; }", "for (const E of 1) { E.A; new E.A(); }", "try {} catch (E) { E.A = 1; E = 2; }",
		"{ function E() {} E.A; E.A = 1; }", "{ class E {} new E(); E.A; class F extends E {} }", "{ const E = {A: 1}; E.A; }",
		"print.E.A; ({E: 1}).E.A;",
	} {
		gives(t, constEnums+shadow, shadow)
	}
	gives(t,
		constEnums+"{ enum E { A = 5 } E.A; E; }", "{ const E = {A: 5}; E.A; E; }",
		constEnums+"{ const enum E { Z } E.Z; } E.A;", "{ 0; } 0;",
		constEnums+"{ namespace E { export const A = 5; } E.A; E; }", "{ const E = (() => { const A = 5; return {A: A}; })(); E.A; E; }",
		"enum E { A } { const enum E { A = 5 } E.A; } E.A;", "const E = {A: 0}; { 5; } E.A;",
		"let E = 1; { const enum E { A = 5 } E.A; } E.A;", "let E = 1; { 5; } E.A;",
		"const enum print { A = 5 } print.A;", "5;",
	)
}

// P13.1: each use of a Const Enum that is none of its members.
func TestConstRefused(t *testing.T) {
	for _, text := range []string{
		// The Name alone.
		"@E;", "let x = @E;", "print(@E);", "[@E];", "({E: @E});", "`${@E}`;", "-@E;", "typeof @E;", "@E + 1;", "1 === @E;", "@E ? 1 : 2;", "@E();", "@E[0];", "print[@E];", "@E[0] = 1;", "print.A = @E;",
		"if (@E) {}", "while (@E) {}", "for (const x of @E) {}", "for (let i = @E;;) {}", "throw @E;", "let f = () => @E;", "function f() { return @E; }", "class C { x = @E; }", "{ { @E; } }", "namespace N { export const a = @E; }",
		// Not the kid of a Member: an As, a Bang between.
		"(@E as any).A;", "@E!.A;", "(@E as any);", "(@E!)!.A;", "@E[0].A;", "@E().A;", "(1 ? @E : 1).A;",
		// A Member of another name.
		"@E.Z;", "@E.a;", "@E.E;", "@E.length;", "@E.Z.A;", "print(@E.Z);", "@E.Z();", "@E.Z = 1;", "new @E.Z();", "@E.A$;", "print(E.A, @E.Z, E.Z);",
		// What is assigned to.
		"@E.A = 1;", "@E.B += 1;", "@E.C -= 1;", "@E.A = E.B;", "@E.A = 'y' as any;", "print(@E.A %= 2);", "let f = () => @E.A = 1;", "for (;; @E.A *= 2) {}",
		// What is made.
		"new @E();", "new @E.A();", "new @E.A.B();", "new @E.A.B.C.D(E.A);", "new @E.C<T>(1);", "new @E.Z.A();", "print(new @E.A.A());", "new print(new @E.A.B.C());",
	} {
		refuses(t, offence{"Name", constEnums + text})
	}
	refuses(t,
		offence{"Base", constEnums + "class C @extends E {}"},
		offence{"Base", constEnums + "class C @extends E<A> { x = E; }"},
		offence{"Name", "const enum E {} @E.A;"},
		offence{"Name", "const enum E {} @E;"},
		offence{"Name", "function f() { return @E; } const enum E { A }"},
		offence{"Name", "function f() { return @E.Z; } const enum E { A }"},
		offence{"Name", "namespace N { const enum E { A } { @E.Z; } }"},
		offence{"Name", "const enum E { A } { const enum E { B } E.B; @E.A; }"},
	)
	// An Assign's second kid, a New's others, and Members of what is no Member alone are no such places.
	gives(t,
		constEnums+"let x = 1; x = E.A; new x(E.A); new x.E.A(); x = x = E.D;", "let x = 1; x = 0; new x(0); new x.E.A(); x = x = 7;",
		constEnums+"E.A.B = 1; E.A[0].C = 1; E.A().D = 1;", "0.B = 1; 0[0].C = 1; 0().D = 1;",
	)
}

// P13.1: the least number is told, of EnumMembers and of uses.
func TestFirstOffence(t *testing.T) {
	refuses(t,
		offence{"Name", constEnums + "print(@E, E, E.Z);"},
		offence{"Name", constEnums + "print(E.A, @E.Z, E);"},
		offence{"Name", constEnums + "@E.A = E;"},
		offence{"Name", constEnums + "new @E.A(E.Z);"},
		offence{"Base", constEnums + "class C @extends E { x = E.Z; }"},
		offence{"Name", constEnums + "const enum F { A } @F.B; E.Z;"},
		offence{"EnumMember", constEnums + "enum F { @A = 1 % 0 } E; enum G { A, A }"},
		offence{"Name", constEnums + "@E; enum F { A = 1 % 0 }"},
		offence{"EnumMember", "const enum E { A, @A } E; E.A; E.Z;"},
		offence{"Name", "function f() { return @E.Z; } const enum E { A, A }"},
		// The uses of an Enum that is refused are looked at by the names that it has.
		offence{"EnumMember", "function f() { return [E.A, E.B]; } const enum E { A, @B = 1 % 0 }"},
		offence{"EnumMember", "function f() { return [E.A, E.C]; } const enum E { A, @A, C }"},
		offence{"Name", "function f() { return [E.A, @E.D, E.C]; } const enum E { A, A, C }"},
		offence{"Name", "function f() { return @E.A = E; } const enum E { A }"},
		// A use in a member's expression is behind the EnumMember.
		offence{"EnumMember", "const enum F { A } enum E { @A = F }"},
		offence{"EnumMember", "const enum F { A } enum E { A, @B = F.Z }"},
	)
}

// P13.1: the number of a use stands, not its place in the text: all At are the same.
func TestNumbersCount(t *testing.T) {
	x := turned(read(t, constEnums+"print(E.A, E.Z);"), func(l []api.Node) {
		for n := range l {
			l[n].At = 3
		}
	})
	got, _ := agrees(t, "all At are 3", x)
	if want := len(x.Nodes) - 1; !got.is(answer{api.Tree{}, want, api.ErrType}) {
		t.Errorf("%v, not %d", got, want)
	}
}
