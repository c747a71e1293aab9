package fold_test

import (
	"strconv"
	"testing"

	"shuck/api"
	"shuck/tree"
)

// others are expressions that are none of constants: each other kind, and the signs that are none of them.
func others() []string {
	return []string{
		`"a"`, `""`, `"1"`, "``", "`1`", "`a${1}b`", "true", "false", "null", "undefined", "x", "A", "this", "[]", "[1]", "({})", "({ a: 1 })", "() => 1", "a => { }",
		"!1", "!0", "typeof 1", "!!1", "typeof typeof 1", "1 ? 2 : 3", "x = 1", "x += 1", "x -= 1", "x *= 1", "x %= 1", "x.y = 1", "x[0] = 1", "f()", "f(1)", "f<number>(1)", "new C()", "new N.C<number>(1)", "x.y", "E.A", "x[0]", "[1][0]",
		"super(1)", "super.a", "1 as number", "1 as any", "1!", "1!!", "(1 + 2)!", "(1 + 2) as number",
		"1 || 2", "1 && 2", "1 === 1", "1 !== 2", "1 < 2", "1 <= 2", "1 > 2", "1 >= 2", "1 in 2", "0 || 0", "0 && 0",
	}
}

// P11.1: each other kind of expression, each other sign.
func TestOthers(t *testing.T) {
	seen := map[int]bool{api.Num: true}
	signs := map[string]bool{}
	for _, s := range others() {
		x := expr(t, s)
		seen[x.Nodes[0].Kind] = true
		signs[x.Nodes[0].Text] = true
		values(t, s, x, 0, 0, api.ErrType)
	}
	for kind := api.Num; kind <= api.Bang; kind++ {
		if !seen[kind] && kind != api.Prop {
			t.Errorf("no expression of the kind %d", kind)
		}
	}
	for _, s := range []string{"||", "&&", "===", "!==", "<", "<=", ">", ">=", "in", "!", "typeof"} {
		if !signs[s] {
			t.Errorf("no %s", s)
		}
	}
}

// P11.1: each of them within an expression of constants, on either side, deep.
func TestOthersWithin(t *testing.T) {
	for _, s := range others() {
		x := expr(t, s)
		for _, sign := range []string{"-", "~"} {
			values(t, sign+s, node(api.Unary, sign, 0, x), 0, 0, api.ErrType)
		}
		for _, sign := range []string{"+", "-", "*", "%", "<<", ">>", ">>>", "&", "|", "^"} {
			values(t, s+sign+"1", both(sign, x, number(1)), 0, 0, api.ErrType)
			values(t, "0"+sign+s, both(sign, number(0), x), 0, 0, api.ErrType)
			values(t, "2"+sign+"(0 *"+s+")", both(sign, number(2), both("*", number(0), x)), 0, 0, api.ErrType)
		}
	}
	worthless(t, `1 + "a"`, `"a" + 1`, `"a" + "b"`, `1 + (2 + "")`, "x + 1", "-x", "1 + 2 + A", "1 - !0", "~typeof 1", "-!1", "(1 < 2) + 1", "(1 || 2) | 3", "-(1!)", "(1 as number) + 1", "-`1`")
}

// P11.1: constants within what is none: the whole has no value, they have theirs.
func TestWithinOthers(t *testing.T) {
	for _, s := range others() {
		agreesAll(t, expr(t, s))
		agreesAll(t, both("+", expr(t, s), both("<<", number(1), expr(t, s))))
	}
}

// P11.1: signs that chapter 3 has not are no tree at all.
func TestNoSigns(t *testing.T) {
	for _, s := range []string{"+", "", "--", "++", "void", "- ", "+-"} {
		values(t, s, node(api.Unary, s, 0, number(1)), 0, 0, api.ErrTree)
	}
	for _, s := range []string{"/", "**", "", "==", "!=", "<<<", "~", "!", "=", "+=", ",", "and"} {
		values(t, s, both(s, number(1), number(2)), 0, 0, api.ErrTree)
	}
	for _, n := range []int{-1, api.MaxNumber + 1, -api.MaxNumber, 1 << 62} {
		values(t, "Num "+strconv.Itoa(n), node(api.Num, "", n), 0, 0, api.ErrTree)
	}
}

// kinds is a tree in which each kind of node stands, but a None, a Program at its root.
func kinds(t *testing.T) api.Tree {
	text := "let v: 1 | -2 | \"a\" | (number[]) = 1 + 2; function f<T>(p?: T): {a?: number} { return -1; } class C<T> extends B<T> implements I<T> { readonly x = ~1; constructor(public y) { super(1); super.a; } m(g: (a) => 1) { this.x = 2; } } " +
		"const enum K { A = 1 } enum E { A, B = 1 << 2, C = \"c\" } namespace N { export enum F { A, A } } interface I<T> extends J { a: T } type A = null; if (1) { } else { } while (2 * 3) { break; } for (;;) { continue; } for (const a of [1]) { } throw 5; try { } catch (e) { } ;"
	for _, s := range others() {
		text += " x = " + s + ";"
	}
	return program(t, text)
}

// P11.1, P11.2: each kind of node, with what it is not.
func TestEachKind(t *testing.T) {
	x := kinds(t)
	seen := map[int]int{}
	for n := range tree.Walk(x) {
		kind := x.Nodes[n].Kind
		seen[kind]++
		agrees(t, x, n)
		_, e := asked(t, x, n)
		if isExpression := kind >= api.Num && kind <= api.Bang && kind != api.Prop; isExpression == (e == api.ErrArg) || e == api.ErrTree {
			t.Errorf("Value of the kind %d: %v", kind, e)
		}
		if got := listed(t, x, n); (kind == api.Enum) == (got.err == api.ErrArg) || got.err == api.ErrTree {
			t.Errorf("Members of the kind %d: %v", kind, got)
		}
	}
	for kind := 1; kind <= api.TypeUnion; kind++ {
		if seen[kind] == 0 && isKind(kind) {
			t.Errorf("no node of the kind %d", kind)
		}
	}
}

// isKind tells whether there is such a kind.
func isKind(kind int) bool {
	return kind >= api.None && kind <= api.Program || kind >= api.Num && kind <= api.Bang || kind >= api.Var && kind <= api.TypeParam || kind >= api.TypeName && kind <= api.TypeUnion
}

// P11.1: an expression stands at the root, whatever its place in a text.
func TestPlacesInTexts(t *testing.T) {
	x := expr(t, "1 + 2")
	for _, at := range []int{-1, 0, 5, 1 << 40} {
		values(t, "At", turned(x, func(l []api.Node) {
			for i := range l {
				l[i].At = at - i
			}
		}), 0, 3, api.OK)
	}
}
