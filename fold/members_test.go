package fold_test

import (
	"strconv"
	"strings"
	"testing"

	"shuck/api"
)

// hasMembers fails, unless the first enum of a text has these members: names with their numbers, or with their texts in quotes.
func hasMembers(t *testing.T, text, members string) {
	t.Helper()
	x := program(t, text)
	n := first(t, x, api.Enum)
	want := answer{nil, -1, api.OK}
	for i, s := range strings.Fields(members) {
		name, value, _ := strings.Cut(s, ":")
		c := api.Constant{Name: name, Node: x.Nodes[n].Kids[i]}
		if said, ok := strings.CutPrefix(value, `"`); ok {
			c.Text, c.IsText = strings.TrimSuffix(said, `"`), true
		} else {
			c.Num, _ = strconv.Atoi(value)
		}
		want.members = append(want.members, c)
	}
	if len(want.members) != len(x.Nodes[n].Kids) {
		t.Fatalf("%s: %d members", text, len(x.Nodes[n].Kids))
	}
	lists(t, text, x, n, want)
}

// offends fails, unless that member of the first enum of a text offends.
func offends(t *testing.T, text string, member int) {
	t.Helper()
	x := program(t, text)
	n := first(t, x, api.Enum)
	lists(t, text, x, n, answer{nil, x.Nodes[n].Kids[member], api.ErrType})
}

// P11.2: the chapter's examples.
func TestMemberExamples(t *testing.T) {
	hasMembers(t, `enum E { A, B = 5, C, D = -1 << 2, E = "x" }`, `A:0 B:5 C:6 D:-4 E:"x"`)
	offends(t, `enum E { A = "x", B }`, 1)
	offends(t, `enum E { A, A }`, 1)
	offends(t, `enum E { A = 1 % 0 }`, 0)
	offends(t, `enum E { A = f() }`, 0)
}

// P11.2: members without an expression: the first, behind others, behind each sort of expression.
func TestCounting(t *testing.T) {
	hasMembers(t, "enum E { A }", "A:0")
	hasMembers(t, "enum E { A, B, C, D }", "A:0 B:1 C:2 D:3")
	hasMembers(t, "enum E { A = 0, B }", "A:0 B:1")
	hasMembers(t, "enum E { A = 7, B, C, D = 3, E, F }", "A:7 B:8 C:9 D:3 E:4 F:5")
	hasMembers(t, "enum E { A = -1, B, C }", "A:-1 B:0 C:1")
	hasMembers(t, "enum E { A = -5, B }", "A:-5 B:-4")
	hasMembers(t, "enum E { A = -0, B }", "A:0 B:1")
	hasMembers(t, "enum E { A = 1 << 4, B, C = 1 << 31, D, E = ~0, F }", "A:16 B:17 C:-2147483648 D:-2147483647 E:-1 F:0")
	hasMembers(t, "enum E { A = -1 >>> 0, B }", "A:4294967295 B:4294967296")
	hasMembers(t, "enum E { A = 3, B = 3, C, D = 3, E }", "A:3 B:3 C:4 D:3 E:4")
	hasMembers(t, "enum E { A = 9007199254740990, B }", "A:9007199254740990 B:9007199254740991")
	hasMembers(t, "enum E { A = 9007199254740991 }", "A:9007199254740991")
	hasMembers(t, "enum E { A = 9007199254740991, B = 1, C }", "A:9007199254740991 B:1 C:2")
	hasMembers(t, "enum E { A = -9007199254740991, B }", "A:-9007199254740991 B:-9007199254740990")
	hasMembers(t, "enum E { A = 9007199254740991 - 1, B, C = 0 - 9007199254740991, D }", "A:9007199254740990 B:9007199254740991 C:-9007199254740991 D:-9007199254740990")
}

// P11.2: texts.
func TestMemberTexts(t *testing.T) {
	hasMembers(t, `enum E { A = "x" }`, `A:"x"`)
	hasMembers(t, `enum E { A = "", B = "", C = "é", D = "x", E = "x" }`, `A:"" B:"" C:"é" D:"x" E:"x"`)
	hasMembers(t, `enum E { A, B = "b", C = 4, D, E = "5" }`, `A:0 B:"b" C:4 D:5 E:"5"`)
	hasMembers(t, `enum E { A = "B", B = 1 }`, `A:"B" B:1`)
	hasMembers(t, `enum E { A = ("x") }`, `A:"x"`)
	x := program(t, `enum E { A = "a b\n\"\u{0}\u{1F600}" }`)
	if got := listed(t, x, 1); got.err != api.OK || got.members[0].Text != "a b\n\"\x00\U0001f600" {
		t.Error(got)
	}
	y := node(api.Enum, "E", 0, node(api.EnumMember, "A", 0, node(api.Str, strings.Repeat("é", api.MaxBytes), 0)))
	lists(t, "a long text", y, 0, answer{[]api.Constant{{Name: "A", Node: 1, Text: strings.Repeat("é", api.MaxBytes), IsText: true}}, -1, api.OK})
}

// P11.2: no members, one comma more, Const Enums and exported ones, Enums anywhere.
func TestWhichEnum(t *testing.T) {
	hasMembers(t, "enum E { }", "")
	hasMembers(t, "const enum E { }", "")
	hasMembers(t, "enum E { A, B, }", "A:0 B:1")
	hasMembers(t, `const enum E { A, B = 5, C = "c" }`, `A:0 B:5 C:"c"`)
	hasMembers(t, `namespace N { export enum E { A = 2, B } }`, "A:2 B:3")
	hasMembers(t, `namespace N { const enum E { A = 2, B } }`, "A:2 B:3")
	hasMembers(t, `{ function f() { if (1) { enum E { A, E } } } }`, "A:0 E:1")
	offends(t, "const enum E { A, A }", 1)
	offends(t, "namespace N { export enum E { A = x } }", 0)
	// As the root, alone.
	lists(t, "a root", node(api.Enum, "E", 0), 0, answer{nil, -1, api.OK})
	lists(t, "a Const root", node(api.Enum, "E", api.Const, node(api.EnumMember, "A", 0, none())), 0, answer{[]api.Constant{{Name: "A", Node: 1}}, -1, api.OK})
	// Several, one of which offends: each for itself.
	x := program(t, `enum A { X, Y } enum B { X, X } enum C { Y = 3, X }`) // Program 0, A 1, B 6, C 11
	lists(t, "A", x, 1, answer{[]api.Constant{{Name: "X", Node: 2}, {Name: "Y", Node: 4, Num: 1}}, -1, api.OK})
	lists(t, "B", x, 6, answer{nil, 9, api.ErrType})
	lists(t, "C", x, 11, answer{[]api.Constant{{Name: "Y", Node: 12, Num: 3}, {Name: "X", Node: 14, Num: 4}}, -1, api.OK})
	agreesAll(t, x)
}

// P11.2: behind a text, behind MaxNumber.
func TestNothingToCountFrom(t *testing.T) {
	offends(t, `enum E { A = "x", B }`, 1)
	offends(t, `enum E { A = "", B }`, 1)
	offends(t, `enum E { A = "1", B, C }`, 1)
	offends(t, `enum E { A, B = "x", C }`, 2)
	offends(t, `enum E { A = 1, B = "x", C = 2, D = "y", E }`, 4)
	offends(t, "enum E { A = 9007199254740991, B }", 1)
	offends(t, "enum E { A = 9007199254740990, B, C }", 2)
	offends(t, "enum E { A = 9007199254740989, B, C, D }", 3)
	offends(t, "enum E { A = 9007199254740990 + 1, B }", 1)
	offends(t, "enum E { A = 6361 * 1416003655831, B }", 1)
	hasMembers(t, "enum E { A = -9007199254740991, B, C }", "A:-9007199254740991 B:-9007199254740990 C:-9007199254740989")
	hasMembers(t, `enum E { A = "x", B = 1, C }`, `A:"x" B:1 C:2`)
}

// P11.2: Names that are there twice, with and without values, with texts too.
func TestTwice(t *testing.T) {
	offends(t, "enum E { A, B, A }", 2)
	offends(t, "enum E { A, B, B, A }", 2)
	offends(t, "enum E { A = 1, A = 1 }", 1)
	offends(t, "enum E { A = 1, A = 2 }", 1)
	offends(t, "enum E { A, A = 0 }", 1)
	offends(t, "enum E { A = 1, B, C, D, E, F, G, B }", 7)
	offends(t, `enum E { A = "x", A = "x" }`, 1)
	offends(t, `enum E { A = "x", A = "y" }`, 1)
	offends(t, `enum E { A = "x", A = 1 }`, 1)
	offends(t, `enum E { A = 1, A = "x" }`, 1)
	offends(t, `enum E { A = "x", B = "y", A = "z" }`, 2)
	// No two names, though they are alike, are a value, a text, the enum's, or an object's own.
	hasMembers(t, `enum E { A, a, AA, A1, A_, E, F = "A", G = "a" }`, `A:0 a:1 AA:2 A1:3 A_:4 E:5 F:"A" G:"a"`)
	hasMembers(t, "enum E { toString, prototype, length, map, _, $ }", "toString:0 prototype:1 length:2 map:3 _:4 $:5")
}

// P11.2: an expression that is neither a text nor has a value.
func TestMembersWithoutValue(t *testing.T) {
	for _, s := range others() {
		if strings.HasPrefix(s, `"`) {
			hasMembers(t, "enum E { A = "+s+" }", "A:"+s)
			continue
		}
		offends(t, "enum E { A = "+s+" }", 0)
		offends(t, "enum E { A = "+s+", B, C = f() }", 0)
		offends(t, "enum E { A, B = 5, C = "+s+", D = 6 }", 2)
		offends(t, "enum E { A = 1 + ("+s+") }", 0)
	}
	for _, s := range []string{"9007199254740991 + 1", "-9007199254740991 - 1", "94906266 * 94906267", "4294967296 * 4294967296", "1 % 0", "0 % 0", "0 * (1 % 0)", "9007199254740991 + 1 - 1", `1 + "x"`, `"x" + "y"`, `-"x"`, "A", "E.A", "A + 1"} {
		offends(t, "enum E { A = "+s+" }", 0)
		offends(t, `enum E { Z = "x", B = `+s+` }`, 1)
		offends(t, "enum E { Z, B = "+s+", C }", 1)
	}
}

// P11.2: the first of several that offend; what offends in two ways offends once; nothing behind it is asked.
func TestFirstOffence(t *testing.T) {
	offends(t, `enum E { A, A = f(), A }`, 1)
	offends(t, `enum E { A = f(), A }`, 0)
	offends(t, `enum E { A, B = 1 % 0, A, C = g() }`, 1)
	offends(t, `enum E { A, A, B = 1 % 0 }`, 1)
	offends(t, `enum E { A = "x", A }`, 1)
	offends(t, `enum E { A = "x", B, B }`, 1)
	offends(t, `enum E { A = "x", B = 1, A, C = f() }`, 2)
	offends(t, `enum E { A = 9007199254740991, A }`, 1)
	offends(t, `enum E { A = 9007199254740991, B, B, C = x }`, 1)
	offends(t, `enum E { A = x, B = y }`, 0)
	offends(t, `enum E { A = 1, B = y, C = x }`, 1)
	// Behind one that offends a member would count on, or be there twice, or not.
	offends(t, `enum E { A = f(), B }`, 0)
	offends(t, `enum E { A, B, C = B, D = C, E = "x", F }`, 2)
}

// P11.2: every enum of up to three members of every sort.
func TestSorts(t *testing.T) {
	kids := []api.Tree{none(), number(0), number(-1), number(api.MaxNumber), number(api.MaxNumber - 1), node(api.Str, "x", 0), node(api.Name, "A", 0), both("%", number(1), number(0))}
	names := []string{"A", "B", "C"}
	var members []api.Tree
	var more func()
	more = func() {
		agrees(t, node(api.Enum, "E", 0, members...), 0)
		if len(members) == 3 {
			return
		}
		for _, name := range names[:len(members)+1] {
			for _, kid := range kids {
				members = append(members, node(api.EnumMember, name, 0, kid))
				more()
				members = members[:len(members)-1]
			}
		}
	}
	more()
}
