package print_test

import (
	"strconv"
	"strings"
	"sync"

	"shuck/api"
	"shuck/parse"
	"shuck/text"
)

// Marks in a text that slow makes; no text has these bytes, since Quote escapes them.
const (
	opened     = "\x01" // for a `(` of the first or the second reason
	closed     = "\x02"
	lessOpened = "\x06" // for a `(` of the third reason alone
	lessClosed = "\x07"
	lesser     = "\x03" // for the `<` of a Binary without parentheses of 1 or 3
	object     = "\x04" // ahead of an Object
	behind     = "\x05" // behind it
)

// unmarked is a text without marks.
func unmarked(s string) string {
	return strings.NewReplacer(opened, "(", closed, ")", lessOpened, "(", lessClosed, ")", lesser, "<", object, "", behind, "").Replace(s)
}

// slow prints by the chapter's words, one step at a time: it makes texts and looks at them.
type slow struct {
	l      []api.Node
	levels map[string]int // by the kind, and of a Binary the sign
	third  map[int]bool
	less   []int // the nodes of the marks lesser
}

func key(n api.Node) string {
	if n.Kind == api.Binary {
		return n.Text
	}
	return strconv.Itoa(n.Kind)
}

// levelsByKey is the levels that the tests tell.
var levelsByKey = sync.OnceValue(func() map[string]int {
	all := map[string]int{}
	for _, x := range levels() {
		all[key(of(x.line).Nodes[0])] = x.level
	}
	return all
})

// marked is the text of a tree that has one, with the marks in it; and the texts ahead of it, each of which lacks one more pair of parentheses of the third reason.
func marked(t api.Tree) (string, []string) {
	s := slow{l: t.Nodes, levels: levelsByKey(), third: map[int]bool{}}
	var lacking []string
	for {
		s.less = nil
		made := s.root()
		n := s.mistaken(made)
		if n < 0 {
			return made, lacking
		}
		lacking = append(lacking, unmarked(made))
		s.third[n] = true
	}
}

func (s *slow) root() string {
	if s.l[0].Kind == api.Program {
		return s.lines(s.l[0].Kids, 0)
	}
	return s.expr(0, 0, 0)
}

// mistaken is the Binary of the first mark lesser at which TypeArgs would begin; -1, if there is none.
func (s *slow) mistaken(made string) int {
	number := 0
	for at := range len(made) {
		if made[at:at+1] != lesser {
			continue
		}
		if begins(unmarked(made[at:])) {
			return s.less[number]
		}
		number++
	}
	return -1
}

// begins tells by chapter 4's rule 3 whether the `<` that a text begins with begins TypeArgs: every `>` might be their end.
func begins(s string) bool {
	for end := range len(s) {
		if s[end] == '>' && strings.HasPrefix(strings.TrimLeft(s[end+1:], " \n"), "(") {
			// A TypeName alone: of T<A>[] | B<C> the first TypeArgs end with A.
			if x, _, e := parse.Type([]byte("T" + s[:end+1])); e == api.OK && x.Nodes[0].Kind == api.TypeName {
				return true
			}
		}
	}
	return false
}

// expr is an expression in a place that asks for a level.
func (s *slow) expr(n, asks, depth int) string {
	switch {
	case s.levels[key(s.l[n])] < asks:
		return opened + s.bare(n, depth, "<") + closed
	case s.third[n]:
		return lessOpened + s.bare(n, depth, "<") + lessClosed
	}
	return s.bare(n, depth, lesser)
}

// leading is what stands first in an Eval or an Arrow's body: an Object there gets its parentheses.
func leading(made string) string {
	if !strings.HasPrefix(made, object) {
		return made
	}
	open := 0
	for at := range len(made) {
		switch made[at : at+1] {
		case object:
			open++
		case behind:
			open--
			if open == 0 {
				return opened + made[:at+1] + closed + made[at+1:]
			}
		}
	}
	panic(made)
}

func (s *slow) row(kids []int, depth int) string {
	var l []string
	for _, k := range kids {
		l = append(l, s.expr(k, 0, depth))
	}
	return strings.Join(l, ", ")
}

func (s *slow) names(list int) string {
	var l []string
	for _, k := range s.l[list].Kids {
		l = append(l, s.l[k].Text)
	}
	return "(" + strings.Join(l, ", ") + ")"
}

func (s *slow) bare(n, depth int, less string) string {
	x := s.l[n]
	kid := func(i, asks int) string { return s.expr(x.Kids[i], asks, depth) }
	list := func(i int) string { return "(" + s.row(s.l[x.Kids[i]].Kids, depth) + ")" }
	switch x.Kind {
	case api.Num:
		return strconv.Itoa(x.Num)
	case api.Str:
		return text.Quote(x.Text)
	case api.Template:
		return s.template(x.Kids, depth)
	case api.Array:
		return "[" + s.row(x.Kids, depth) + "]"
	case api.Object:
		var l []string
		for _, k := range x.Kids {
			l = append(l, s.l[k].Text+": "+s.expr(s.l[k].Kids[0], 0, depth))
		}
		return object + "{" + strings.Join(l, ", ") + "}" + behind
	case api.Arrow:
		if s.l[x.Kids[2]].Kind == api.Block {
			return s.names(x.Kids[1]) + " => " + s.block(x.Kids[2], depth)
		}
		return s.names(x.Kids[1]) + " => " + leading(kid(2, 0))
	case api.Unary:
		return strings.Replace(x.Text, "typeof", "typeof ", 1) + kid(0, 12)
	case api.Binary:
		level := s.levels[x.Text]
		left, sign := kid(0, level), x.Text
		if sign == "<" {
			sign = less
		}
		if sign == lesser {
			s.less = append(s.less, n)
		}
		return left + " " + sign + " " + kid(1, level+1)
	case api.Cond:
		return kid(0, 2) + " ? " + kid(1, 0) + " : " + kid(2, 0)
	case api.Assign:
		return kid(0, 13) + " " + x.Text + " " + kid(1, 0)
	case api.Call:
		return kid(0, 13) + list(2)
	case api.New:
		return "new " + kid(0, 13) + list(2)
	case api.Member:
		return kid(0, 13) + "." + x.Text
	case api.Index:
		return kid(0, 13) + "[" + kid(1, 0) + "]"
	case api.Super:
		return "super" + list(0)
	case api.SuperMember:
		return "super." + x.Text
	case api.Name:
		return x.Text
	}
	return map[int]string{api.True: "true", api.False: "false", api.Null: "null", api.Undefined: "undefined", api.This: "this"}[x.Kind]
}

func (s *slow) template(kids []int, depth int) string {
	made := "`"
	for i, k := range kids {
		if i%2 == 1 {
			made += "${" + s.expr(k, 0, depth) + "}"
			continue
		}
		// Rune by rune, so that what Quote makes of each is seen alone.
		for _, r := range s.l[k].Text {
			q := text.Quote(string(r))
			switch q = q[1 : len(q)-1]; q {
			case `\"`:
				q = `"`
			case "`", "$":
				q = `\` + q
			}
			made += q
		}
	}
	return made + "`"
}

func (s *slow) lines(kids []int, depth int) string {
	made := ""
	for _, k := range kids {
		made += strings.Repeat(" ", 2*depth) + s.stmt(k, depth) + "\n"
	}
	return made
}

func (s *slow) braces(kids []int, depth int) string {
	if len(kids) == 0 {
		return "{}"
	}
	return "{\n" + s.lines(kids, depth+1) + strings.Repeat(" ", 2*depth) + "}"
}

func (s *slow) block(n, depth int) string { return s.braces(s.l[n].Kids, depth) }

func (s *slow) stmt(n, depth int) string {
	x := s.l[n]
	none := func(i int) bool { return s.l[x.Kids[i]].Kind == api.None }
	kid := func(i int) string {
		if none(i) {
			return ""
		}
		return s.expr(x.Kids[i], 0, depth)
	}
	block := func(i int) string { return s.block(x.Kids[i], depth) }
	declared := []string{"let ", "const "}[x.Num] + x.Text
	switch x.Kind {
	case api.Var:
		return declared + " = " + kid(1) + ";"
	case api.Eval:
		return leading(kid(0)) + ";"
	case api.Return:
		return strings.TrimSuffix("return "+kid(0), " ") + ";"
	case api.Throw:
		return "throw " + kid(0) + ";"
	case api.Block:
		return s.block(n, depth)
	case api.Func:
		return "function " + x.Text + s.names(x.Kids[1]) + " " + block(3)
	case api.Method:
		return x.Text + s.names(x.Kids[1]) + " " + block(3)
	case api.Ctor:
		return "constructor" + s.names(x.Kids[0]) + " " + block(1)
	case api.Field:
		return x.Text + " = " + kid(1) + ";"
	case api.Class:
		base := ""
		if !none(1) {
			base = "extends " + s.l[x.Kids[1]].Text + " "
		}
		return "class " + x.Text + " " + base + s.braces(s.l[x.Kids[3]].Kids, depth)
	case api.If:
		made := "if (" + kid(0) + ") " + block(1)
		if !none(2) {
			made += " else " + s.stmt(x.Kids[2], depth)
		}
		return made
	case api.While:
		return "while (" + kid(0) + ") " + block(1)
	case api.For:
		begin := ";"
		if !none(0) {
			begin = s.stmt(x.Kids[0], depth)
		}
		return "for (" + begin + " " + kid(1) + "; " + kid(2) + ") " + block(3)
	case api.ForOf:
		return "for (" + declared + " of " + kid(0) + ") " + block(1)
	case api.Try:
		made := "try " + block(0)
		if !none(1) {
			catch := s.l[x.Kids[1]]
			made += " catch (" + catch.Text + ") " + s.block(catch.Kids[0], depth)
		}
		if !none(2) {
			made += " finally " + block(2)
		}
		return made
	}
	return map[int]string{api.Break: "break;", api.Continue: "continue;", api.Empty: ";"}[x.Kind]
}
