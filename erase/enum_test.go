package erase_test

import (
	"testing"

	"shuck/api"
	"shuck/tree"
)

// P13.1: what members are: each sort of value, each edge.
func TestEnumMembers(t *testing.T) {
	gives(t,
		"enum E {}", "const E = {};",
		"enum E { A }", "const E = {A: 0};",
		"enum E { A, B, C }", "const E = {A: 0, B: 1, C: 2};",
		"enum E { A = 0, B = 1, C = 7 }", "const E = {A: 0, B: 1, C: 7};",
		"enum E { A = -1, B, C }", "const E = {A: -1, B: 0, C: 1};",
		"enum E { A = -3, B, C = -1 << 2 }", "const E = {A: -3, B: -2, C: -4};",
		"enum E { A = -0, B = 0 * -1, C = ~0, D = - -5 }", "const E = {A: 0, B: 0, C: -1, D: 5};",
		"enum E { A = 9007199254740991, B = -9007199254740991 }", "const E = {A: 9007199254740991, B: -9007199254740991};",
		"enum E { A = 9007199254740990, B }", "const E = {A: 9007199254740990, B: 9007199254740991};",
		"enum E { A = -9007199254740991, B }", "const E = {A: -9007199254740991, B: -9007199254740990};",
		"enum E { A = 1 + 2 * 3, B, C = (7 % 4) | 8, D = 1 << 31, F = -1 >>> 0 }", "const E = {A: 7, B: 8, C: 11, D: -2147483648, F: 4294967295};",
		`enum E { A = "x", B = "", C = "é\n\"\u{0}" }`, `const E = {A: "x", B: "", C: "é\n\"\u{0}"};`,
		`enum E { A, B = "b", C = 1, D, F = "f" }`, `const E = {A: 0, B: "b", C: 1, D: 2, F: "f"};`,
		"enum E { E, print, toString, __proto__ }", "const E = {E: 0, print: 1, toString: 2, __proto__: 3};",
		"enum E { A = 5, B, C = -(2 - 3), D }", "const E = {A: 5, B: 6, C: 1, D: 2};",
	)
}

// P13.1: where Enums may stand, and what uses them.
func TestEnumPlaces(t *testing.T) {
	gives(t,
		"print(1); enum E { A } print(E.A, E, E[0]);", "print(1); const E = {A: 0}; print(E.A, E, E[0]);",
		"{ enum E { A } { enum E { B } E.B; } E.B; }", "{ const E = {A: 0}; { const E = {B: 0}; E.B; } E.B; }",
		"function f(E) { { enum E { A = -1 } return E.A; } }", "function f(E) { { const E = {A: -1}; return E.A; } }",
		"let f = () => { enum E { A } }; class C { m() { enum E { A } } constructor() { enum E { A } } x = () => { enum E {} }; }", "let f = () => { const E = {A: 0}; }; class C { m() { const E = {A: 0}; } constructor() { const E = {A: 0}; } x = () => { const E = {}; }; }",
		"if (1) { enum E { A } } while (1) { enum E { A } } for (;;) { enum E { A } } for (const E of 1) { enum F { A } }", "if (1) { const E = {A: 0}; } while (1) { const E = {A: 0}; } for (;;) { const E = {A: 0}; } for (const E of 1) { const F = {A: 0}; }",
		"try { enum E { A } } catch (e) { enum E { A } } finally { enum E { A } }", "try { const E = {A: 0}; } catch (e) { const E = {A: 0}; } finally { const E = {A: 0}; }",
		"namespace N { enum E { A } export enum F { B = 3 } export enum G {} }", "const N = (() => { const E = {A: 0}; const F = {B: 3}; const G = {}; return {F: F, G: G}; })();",
		// A use of it that is no member, an Assign, a New, a Base: an Enum that is not Const may be used in every way.
		"enum E { A } E.B; E.A = E; E.A += 1; new E(); new E.A(); class C extends E {} (E as F).A; E!.A;", "const E = {A: 0}; E.B; E.A = E; E.A += 1; new E(); new E.A(); class C extends E {} E.A; E.A;",
		"function f() { return E.A; } enum E { A }", "function f() { return E.A; } const E = {A: 0};",
	)
}

// P13.1: an EnumMember at which chapter 11 refuses its Enum is told, wherever that stands; of an Enum of either sort.
func TestEnumRefused(t *testing.T) {
	for _, word := range []string{"enum ", "const enum "} {
		refuses(t,
			offence{"EnumMember", word + "E { @A = 1 % 0 }"},
			offence{"EnumMember", word + "E { A, @A }"},
			offence{"EnumMember", word + "E { A = 'x', @B }"},
			offence{"EnumMember", word + "E { A = 9007199254740991, @B }"},
			offence{"EnumMember", word + "E { A, @B = print(), C = 1 % 0 }"},
			offence{"EnumMember", word + "E { A, @B = 1 as number }"},
			offence{"EnumMember", word + "E { A, @B = 1! }"},
			offence{"EnumMember", word + "E { A, @B = `x` }"},
			offence{"EnumMember", word + "E { A, B, @C = () => E.A }"},
			offence{"EnumMember", "{ " + word + "E { @A = null } }"},
			offence{"EnumMember", "function f(a) { " + word + "E { @A = a } }"},
			offence{"EnumMember", "namespace N { " + word + "E { @A = !1 } }"},
			offence{"EnumMember", "class C { m() { " + word + "E { A, @B = this } } }"},
			offence{"EnumMember", "enum D { A } const enum F { B } " + word + "E { A, @B = D.A } print(F.B);"},
			offence{"EnumMember", "const enum F { B } " + word + "E { A, @B = F.B }"},
			// Several Enums, one of which stands in a member of another.
			offence{"EnumMember", word + "E { A, @B = 1 % 0 } enum F { A, A }"},
			offence{"EnumMember", "enum F { A } " + word + "E { A, @A }"},
			offence{"EnumMember", word + "E { A, @B = () => { enum F { C, C } } }"},
			offence{"EnumMember", word + "E { @A = () => { enum F { C } }, A }"},
			offence{"EnumMember", word + "E { A, @A = () => { enum F { C, C } } }"},
		)
	}
	refuses(t, offence{"EnumMember", "namespace N { export enum E { @A = 1 % 0 } }"})
}

// P13.1: an Export of a Const Enum is none that chapter 3 takes.
func TestConstEnumExported(t *testing.T) {
	x := turned(read(t, "namespace N { export enum E { A } }"), func(l []api.Node) {
		for n := range l {
			if l[n].Kind == api.Enum {
				l[n].Num = api.Const
			}
		}
	})
	got, _ := agrees(t, "an exported Const Enum", x)
	if want, e := tree.Check(x); !got.is(answer{api.Tree{}, want, e}) || e != api.ErrTree || x.Nodes[want].Kind != api.Export {
		t.Errorf("%v, not %d, %v", got, want, e)
	}
}
