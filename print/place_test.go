package print_test

import (
	"strings"
	"testing"

	"shuck/api"
)

// place is where an expression may stand: a line and a text in which # stands for it, and the level that is asked for.
type place struct {
	line, text string
	asks       int
}

// places are all places that an expression's kids have.
func places() []place {
	all := []place{
		{"Unary ! [#]", "!#", 12}, {"Unary - [#]", "-#", 12}, {"Unary ~ [#]", "~#", 12}, {"Unary typeof [#]", "typeof #", 12},
		{"Cond [#, x, y]", "# ? x : y", 2}, {"Cond [x, #, y]", "x ? # : y", 0}, {"Cond [x, y, #]", "x ? y : #", 0},
		{"Assign = [x, #]", "x = #", 0}, {"Assign += [Index [#, x], y]", "#[x] += y", 13}, {"Assign = [Member p [#], y]", "#.p = y", 13}, {"Assign = [Index [x, #], y]", "x[#] = y", 0},
		{"Call [#, L, L]", "#()", 13}, {"Call [f, L, L [#]]", "f(#)", 0}, {"Call [f, L, L [x, #, y]]", "f(x, #, y)", 0},
		{"New [A, L, L [#]]", "new A(#)", 0}, {"New [A, L, L [x, #]]", "new A(x, #)", 0},
		{"Member p [#]", "#.p", 13}, {"Index [#, x]", "#[x]", 13}, {"Index [x, #]", "x[#]", 0},
		{"Super [L [#]]", "super(#)", 0}, {"Super [L [x, #]]", "super(x, #)", 0},
		{"Array [#]", "[#]", 0}, {"Array [x, #]", "[x, #]", 0}, {"Object [Prop p [#]]", "{p: #}", 0}, {"Object [Prop p [x], Prop q [#]]", "{p: x, q: #}", 0},
		{`Template [Str "s", #, Str ""]`, "`s${#}`", 0}, {`Template [Str "", x, Str "", #, Str "s"]`, "`${x}${#}s`", 0},
	}
	for n, signs := range []string{"||", "&&", "|", "^", "&", "=== !==", "< <= > >= in", "<< >> >>>", "+ -", "* %"} {
		for _, sign := range strings.Fields(signs) {
			all = append(all, place{"Binary " + sign + " [#, x]", "# " + sign + " x", n + 2}, place{"Binary " + sign + " [x, #]", "x " + sign + " #", n + 3})
		}
	}
	return all
}

// statementPlaces are all places that ask for 0 in statements and in an Arrow; an Object has parentheses in some of them.
func statementPlaces() []place {
	return []place{
		{"Program [Var x [-, #]]", "let x = #;\n", 0},
		{"Program [Var x Const [-, #]]", "const x = #;\n", 0},
		{"Program [If [#, Block, -]]", "if (#) {}\n", 0},
		{"Program [If [x, Block, If [#, Block, -]]]", "if (x) {} else if (#) {}\n", 0},
		{"Program [While [#, Block]]", "while (#) {}\n", 0},
		{"Program [For [Var i [-, #], -, -, Block]]", "for (let i = #; ; ) {}\n", 0},
		{"Program [For [-, #, -, Block]]", "for (; #; ) {}\n", 0},
		{"Program [For [-, -, #, Block]]", "for (; ; #) {}\n", 0},
		{"Program [ForOf x Const [#, Block]]", "for (const x of #) {}\n", 0},
		{"Program [Return [#]]", "return #;\n", 0},
		{"Program [Throw [#]]", "throw #;\n", 0},
		{"Program [Class C [L, -, L, L [Field x [-, #]]]]", "class C {\n  x = #;\n}\n", 0},
	}
}

// filled puts an expression into a place: with parentheses about it just if its level is below what is asked for.
func filled(p place, x level) (line, text string) {
	in := x.text
	if x.level < p.asks {
		in = "(" + in + ")"
	}
	return strings.Replace(p.line, "#", x.line, 1), strings.Replace(p.text, "#", in, 1)
}

// P6.1: every kind and sign in every place: parentheses for the first reason just where they must be. (Those for the third one are looked for elsewhere: no place here has a > and brackets behind what it is about.)
func TestPlaces(t *testing.T) {
	for _, x := range levels() {
		for _, p := range places() {
			line, text := filled(p, x)
			if strings.Contains(text, "< b > (") {
				t.Fatalf("%s", text)
			}
			expr().all(t, line, text)
		}
		for _, p := range statementPlaces() {
			line, text := filled(p, x)
			program().all(t, line, text)
		}
	}
}

// P6.1: as a statement and as an Arrow's body every expression stands without parentheses, but an Object.
func TestFirst(t *testing.T) {
	for _, x := range levels() {
		text := x.text
		if x.text[0] == '{' {
			text = "(" + text + ")"
		}
		program().all(t, "Program [Eval ["+x.line+"]]", text+";\n")
		expr().all(t,
			"Arrow [L, L, "+x.line+"]", "() => "+text,
			"Arrow [L, L, Arrow [L, L, "+x.line+"]]", "() => () => "+text)
	}
}

// P6.1: the second reason: an Object that is first beneath others, wherever these have their first kid.
func TestObjectFirst(t *testing.T) {
	over := []place{
		{"#", "#", 0},
		{"Member p [#]", "#.p", 13}, {"Call [#, L, L]", "#()", 13}, {"Call [#, L, L [Object]]", "#({})", 13},
		{"Index [#, x]", "#[x]", 13}, {"Index [#, Object]", "#[{}]", 13},
		{"Binary + [#, x]", "# + x", 10}, {"Binary || [#, Object]", "# || {}", 2}, {"Binary < [#, x]", "# < x", 8},
		{"Cond [#, Object, Object]", "# ? {} : {}", 2},
		{"Assign = [Member p [#], Object]", "#.p = {}", 13}, {"Assign += [Index [#, x], y]", "#[x] += y", 13},
	}
	behind := []place{
		{"Unary ! [#]", "!#", 12}, {"Unary typeof [#]", "typeof #", 12}, {"Array [#]", "[#]", 0}, {"Call [f, L, L [#]]", "f(#)", 0},
		{"Binary + [x, #]", "x + #", 11}, {"Cond [x, #, #]", "x ? # : {}", 0}, {"Assign = [x, #]", "x = #", 0}, {"Object [Prop p [#]]", "({p: #})", 0},
		{`Template [Str "", #, Str ""]`, "`${#}`", 0}, {"New [A, L, L [#]]", "new A(#)", 0}, {"Super [L [#]]", "super(#)", 0}, {"Index [x, #]", "x[#]", 0},
	}
	check := func(line, text string) {
		t.Helper()
		program().all(t, "Program [Eval ["+line+"]]", text+";\n", "Program [Block [Eval ["+line+"]]]", "{\n  "+text+";\n}\n")
		expr().all(t, "Arrow [L, L, "+line+"]", "() => "+text, "Array [Arrow [L, L, "+line+"]]", "[() => "+text+"]")
	}
	for _, object := range []place{{"Object", "{}", 13}, {"Object [Prop p [Object]]", "{p: {}}", 13}} {
		for _, p := range over {
			// Once, and twice one over the other where the level lets it.
			line, text := strings.ReplaceAll(p.line, "#", object.line), strings.ReplaceAll(p.text, "#", "("+object.text+")")
			check(line, text)
			for _, q := range over[1:] {
				if levelOf(line) < q.asks {
					// The parentheses of the first reason are first then.
					bare := "(" + strings.ReplaceAll(p.text, "#", object.text) + ")"
					check(strings.ReplaceAll(q.line, "#", line), strings.ReplaceAll(q.text, "#", bare))
				} else {
					check(strings.ReplaceAll(q.line, "#", line), strings.ReplaceAll(q.text, "#", text))
				}
			}
		}
		for _, p := range behind {
			line := strings.Replace(p.line, "#", object.line, 1)
			text := strings.Replace(p.text, "#", object.text, 1)
			check(strings.ReplaceAll(line, "#", "Object"), text)
		}
	}
	// Elsewhere an Object is first without them.
	expr().stays(t, "{}", "{}.p", "{p: a} + b", "{}()", "x = {}.p", "() => {}", "[{}.p]")
	program().stays(t, "let x = {}.p;\n", "return {}.p;\n", "throw {};\n", "if ({}.p) {}\n", "for (; ; {}.p) {}\n", "class C {\n  x = {}.p;\n}\n")
}

// levelOf is the level of an expression told in a line.
func levelOf(line string) int {
	l := of(line).Nodes
	for _, x := range levels() {
		if y := of(x.line).Nodes[0]; y.Kind == l[0].Kind && (y.Kind != api.Binary || y.Text == l[0].Text) {
			return x.level
		}
	}
	panic(line)
}
