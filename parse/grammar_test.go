package parse_test

import (
	"slices"
	"strconv"
	"strings"

	"shuck/api"
	"shuck/lex"
)

// The chapter's grammar as data, for two readers: one goes through all ways at once (never thinking which is meant, so that a text with two trees would be found), one makes texts by chance.

// part is a piece of the grammar.
type part struct {
	op    string
	text  string
	kind  int
	parts []*part
	act   func(at int, v []*thing) *thing
	guard func(s *slow, p int) bool
}

// thing is what a part makes: a node; or, with kind isText or isNum, the Text or the Num of the node about it.
type thing struct {
	kind, num, at int
	text          string
	kids          []*thing
}

const (
	isText = -1
	isNum  = -2
)

func seq(l ...*part) *part                     { return &part{op: "seq", parts: l} }
func or(l ...*part) *part                      { return &part{op: "or", parts: l} }
func many(x *part) *part                       { return &part{op: "many", parts: []*part{x}} }
func opt(x *part) *part                        { return or(x, seq()) }
func rule(name string) *part                   { return &part{op: "rule", text: name} }
func sign(text string) *part                   { return &part{op: "sign", text: text} }
func token(kind int) *part                     { return &part{op: "token", kind: kind} }
func name() *part                              { return token(api.TokName) }
func says(num int, x *part) *part              { return seq(x, &part{op: "num", kind: num}) }
func spoken(text string) *part                 { return &part{op: "spoken", text: text} } // a sign that is the node's Text
func angle() *part                             { return &part{op: "angle"} }
func node(kind int, x *part) *part             { return &part{op: "node", kind: kind, parts: []*part{x}} }
func list(x *part) *part                       { return node(api.List, x) }
func orNone(x *part) *part                     { return or(x, node(api.None, seq())) }
func commas(x *part) *part                     { return seq(x, many(seq(sign(","), x))) }
func behind(word, r string) *part              { return seq(sign(word), rule(r)) }
func inside(a string, x *part, b string) *part { return seq(sign(a), x, sign(b)) }

// where is x, but only where the guard holds ahead of it.
func where(guard func(s *slow, p int) bool, x *part) *part {
	return seq(&part{op: "guard", guard: guard}, x)
}

// then makes one thing of those of x; nil: x is not there.
func then(x *part, act func(at int, v []*thing) *thing) *part {
	return &part{op: "then", parts: []*part{x}, act: act}
}

func oneOf(signs string) *part {
	var l []*part
	for _, s := range strings.Fields(signs) {
		l = append(l, spoken(s))
	}
	return or(l...)
}

func grammar() map[string]*part {
	g := map[string]*part{}
	grammarOfStmts(g)
	grammarOfParts(g)
	grammarOfExprs(g)
	grammarOfTypes(g)
	return g
}

func grammarOfStmts(g map[string]*part) {
	g["Program"] = then(seq(many(rule("Stmt")), token(api.TokEnd)), func(_ int, v []*thing) *thing {
		return &thing{kind: api.Program, kids: v}
	})
	notBrace := func(s *slow, p int) bool { return !s.stands(p, "{") }
	typed := orNone(behind(":", "Type"))
	letOrConst := or(says(api.Let, sign("let")), says(api.Const, sign("const")))
	g["Stmt"] = or(
		rule("Var"), rule("Func"), rule("Class"), rule("Enum"), rule("ConstEnum"), rule("Namespace"), rule("Interface"), rule("Alias"),
		node(api.Empty, sign(";")),
		rule("Block"),
		rule("If"),
		node(api.While, seq(sign("while"), inside("(", rule("Expr"), ")"), rule("Block"))),
		node(api.ForOf, seq(sign("for"), sign("("), letOrConst, name(), sign("of"), rule("Expr"), sign(")"), rule("Block"))),
		node(api.For, seq(sign("for"), sign("("),
			orNone(node(api.Var, seq(sign("let"), name(), typed, sign("="), rule("Expr")))), sign(";"),
			orNone(rule("Expr")), sign(";"), orNone(rule("Expr")), sign(")"), rule("Block"))),
		node(api.Return, seq(sign("return"), orNone(rule("Expr")), sign(";"))),
		node(api.Break, seq(sign("break"), sign(";"))),
		node(api.Continue, seq(sign("continue"), sign(";"))),
		node(api.Throw, seq(sign("throw"), rule("Expr"), sign(";"))),
		then(node(api.Try, seq(sign("try"), rule("Block"),
			orNone(node(api.Catch, seq(sign("catch"), sign("("), name(), sign(")"), rule("Block")))),
			orNone(seq(sign("finally"), rule("Block"))))), func(_ int, v []*thing) *thing {
			if kids := v[0].kids; kids[1].kind == api.None && kids[2].kind == api.None {
				return nil
			}
			return v[0]
		}),
		where(notBrace, node(api.Eval, seq(rule("Expr"), sign(";")))),
	)
	g["Var"] = or(rule("ConstVar"), node(api.Var, seq(sign("let"), name(), typed, sign("="), rule("Expr"), sign(";"))))
	g["ConstVar"] = node(api.Var, says(api.Const, seq(sign("const"), name(), typed, sign("="), rule("Expr"), sign(";"))))
	g["If"] = node(api.If, seq(sign("if"), inside("(", rule("Expr"), ")"), rule("Block"), orNone(seq(sign("else"), or(rule("If"), rule("Block"))))))
	g["Block"] = node(api.Block, inside("{", many(rule("Stmt")), "}"))
}

func grammarOfParts(g map[string]*part) {
	typed := orNone(behind(":", "Type"))
	called := seq(name(), rule("TypeParams"), inside("(", rule("Params"), ")"), typed, rule("Block"))
	g["Func"] = node(api.Func, seq(sign("function"), called))
	g["Class"] = then(node(api.Class, seq(sign("class"), name(), rule("TypeParams"),
		orNone(node(api.Base, seq(sign("extends"), name(), rule("TypeArgs")))),
		list(opt(seq(sign("implements"), commas(rule("TypeRef"))))),
		list(inside("{", many(rule("ClassPart")), "}")))), func(_ int, v []*thing) *thing {
		count := 0
		for _, x := range v[0].kids[3].kids {
			if x.kind == api.Ctor {
				count++
			}
		}
		if count > 1 {
			return nil
		}
		return v[0]
	})
	g["ClassPart"] = or(
		node(api.Field, seq(opt(says(api.Readonly, sign("readonly"))), name(), typed, orNone(behind("=", "Expr")), sign(";"))),
		node(api.Ctor, seq(sign("constructor"), inside("(", rule("MemberParams"), ")"), rule("Block"))),
		node(api.Method, called),
	)
	members := inside("{", opt(seq(commas(rule("EnumPart")), opt(sign(",")))), "}")
	g["Enum"] = node(api.Enum, seq(sign("enum"), name(), members))
	g["ConstEnum"] = node(api.Enum, says(api.Const, seq(sign("const"), sign("enum"), name(), members)))
	g["EnumPart"] = node(api.EnumMember, seq(name(), orNone(behind("=", "Expr"))))
	g["Namespace"] = node(api.Namespace, seq(sign("namespace"), name(), sign("{"),
		many(or(node(api.Export, behind("export", "Exported")), rule("Stmt"))), sign("}")))
	g["Exported"] = or(rule("ConstVar"), rule("Func"), rule("Class"), rule("Enum"), rule("Namespace"), rule("Interface"), rule("Alias"))
	g["Interface"] = node(api.Interface, seq(sign("interface"), name(), rule("TypeParams"),
		list(opt(seq(sign("extends"), commas(rule("TypeRef"))))), rule("ObjectType")))
	g["Alias"] = node(api.Alias, seq(sign("type"), name(), rule("TypeParams"), sign("="), rule("Type"), sign(";")))
	g["TypeParams"] = list(opt(seq(sign("<"), commas(node(api.TypeParam, name())), angle())))
	param := seq(name(), opt(says(api.Optional, sign("?"))), typed)
	g["Params"] = list(opt(commas(node(api.Param, param))))
	g["MemberParams"] = list(opt(commas(node(api.Param,
		seq(opt(says(api.Public, sign("public"))), opt(says(api.Readonly, sign("readonly"))), param)))))
}

func grammarOfExprs(g map[string]*part) {
	isArrow := func(s *slow, p int) bool { return s.arrow(p) }
	notArrow := func(s *slow, p int) bool { return !s.arrow(p) }
	notBrace := func(s *slow, p int) bool { return !s.stands(p, "{") }
	g["Expr"] = or(
		where(notArrow, rule("Cond")),
		where(isArrow, rule("Arrow")),
		where(notArrow, then(node(api.Assign, seq(rule("Cond"), oneOf("= += -= *= %="), rule("Expr"))), func(_ int, v []*thing) *thing {
			switch v[0].kids[0].kind {
			case api.Name, api.Member, api.Index:
				return v[0]
			}
			return nil
		})),
	)
	alone := then(node(api.Param, name()), func(_ int, v []*thing) *thing {
		v[0].kids = []*thing{{kind: api.None}}
		return v[0]
	})
	g["Arrow"] = or(
		node(api.Arrow, seq(list(seq()), list(alone), behind("=>", "Body"))),
		node(api.Arrow, seq(rule("TypeParams"), inside("(", rule("Params"), ")"), behind("=>", "Body"))),
	)
	g["Body"] = or(where(notBrace, rule("Expr")), rule("Block"))
	g["Cond"] = or(rule("Or"), node(api.Cond, seq(rule("Or"), behind("?", "Expr"), behind(":", "Expr"))))
	g["Or"] = level("And", "||")
	g["And"] = level("BitOr", "&&")
	g["BitOr"] = level("Xor", "|")
	g["Xor"] = level("BitAnd", "^")
	g["BitAnd"] = level("Equal", "&")
	g["Equal"] = level("Less", "=== !==")
	g["Less"] = level("Shift", "< <= > >= in as")
	g["Shift"] = level("Sum", "<< >> >>>")
	g["Sum"] = level("Term", "+ -")
	g["Term"] = level("Unary", "* %")
	g["Unary"] = or(rule("Postfix"), node(api.Unary, seq(oneOf("! - ~ typeof"), rule("Unary"))))
	noCall := where(func(s *slow, p int) bool { return !s.typedCall(p) }, seq())
	g["Postfix"] = then(seq(rule("Primary"), many(or(
		node(api.Member, seq(sign("."), name())),
		node(api.Index, inside("[", rule("Expr"), "]")),
		node(api.Call, seq(rule("TypeArgs"), rule("Args"))),
		node(api.Bang, sign("!")),
	)), noCall), func(at int, v []*thing) *thing {
		x := v[0]
		for _, y := range v[1:] {
			x = &thing{kind: y.kind, text: y.text, at: at, kids: append([]*thing{x}, y.kids...)}
		}
		return x
	})
	g["Args"] = inside("(", list(opt(commas(rule("Expr")))), ")")
	g["Primary"] = or(
		node(api.Name, name()),
		node(api.Num, token(api.TokNumber)),
		node(api.Str, token(api.TokString)),
		node(api.Template, node(api.Str, token(api.TokWhole))),
		node(api.Template, seq(node(api.Str, token(api.TokHead)), rule("Expr"),
			many(seq(node(api.Str, token(api.TokMiddle)), rule("Expr"))), node(api.Str, token(api.TokTail)))),
		node(api.True, sign("true")), node(api.False, sign("false")), node(api.Null, sign("null")),
		node(api.Undefined, sign("undefined")), node(api.This, sign("this")),
		inside("(", rule("Expr"), ")"),
		node(api.Array, inside("[", opt(commas(rule("Expr"))), "]")),
		node(api.Object, inside("{", opt(seq(commas(rule("Pair")), opt(sign(",")))), "}")),
		node(api.New, seq(sign("new"), rule("Members"), rule("TypeArgs"), rule("Args"))),
		node(api.Super, seq(sign("super"), rule("Args"))),
		node(api.SuperMember, seq(sign("super"), sign("."), name())),
	)
	g["Members"] = then(seq(node(api.Name, name()), many(seq(sign("."), node(api.Member, name())))), func(at int, v []*thing) *thing {
		x := v[0]
		for _, y := range v[1:] {
			x = &thing{kind: api.Member, text: y.text, at: at, kids: []*thing{x}}
		}
		return x
	})
	g["Pair"] = or(
		then(node(api.Prop, name()), func(at int, v []*thing) *thing {
			return &thing{kind: api.Prop, text: v[0].text, at: at, kids: []*thing{{kind: api.Name, text: v[0].text, at: at}}}
		}),
		node(api.Prop, seq(name(), behind(":", "Expr"))),
	)
}

// level is operands with signs between each two, to the left.
func level(operand, signs string) *part {
	var ways []*part
	for _, s := range strings.Fields(signs) {
		if s == "as" {
			ways = append(ways, node(api.As, behind("as", "Type")))
		} else {
			ways = append(ways, node(api.Binary, seq(spoken(s), rule(operand))))
		}
	}
	return then(seq(rule(operand), many(or(ways...))), func(at int, v []*thing) *thing {
		x := v[0]
		for _, y := range v[1:] {
			x = &thing{kind: y.kind, text: y.text, at: at, kids: append([]*thing{x}, y.kids...)}
		}
		return x
	})
}

func grammarOfTypes(g map[string]*part) {
	ends := func(sign string) *part {
		return where(func(s *slow, p int) bool { return !s.stands(p, sign) }, seq())
	}
	g["TypeArgs"] = or(list(seq()), rule("FullTypeArgs"))
	g["FullTypeArgs"] = list(seq(sign("<"), commas(rule("Type")), angle()))
	// A `|` or a `[` behind a type goes on with the innermost one that can take it, as the chapter's example of `as` has it.
	g["Type"] = then(seq(opt(sign("|")), rule("ArrayType"), many(behind("|", "ArrayType")), ends("|")), func(at int, v []*thing) *thing {
		if len(v) == 1 {
			return v[0]
		}
		return &thing{kind: api.TypeUnion, at: at, kids: v}
	})
	g["ArrayType"] = then(seq(rule("Plain"), many(node(api.TypeArray, inside("[", seq(), "]"))), ends("[")), func(at int, v []*thing) *thing {
		x := v[0]
		for range v[1:] {
			x = &thing{kind: api.TypeArray, at: at, kids: []*thing{x}}
		}
		return x
	})
	isArrow := func(s *slow, p int) bool { return s.arrow(p) }
	notArrow := func(s *slow, p int) bool { return !s.arrow(p) }
	g["Plain"] = or(
		rule("TypeRef"),
		where(isArrow, node(api.TypeFunc, seq(inside("(", rule("Params"), ")"), behind("=>", "Type")))),
		where(notArrow, inside("(", rule("Type"), ")")),
		node(api.TypeNum, token(api.TokNumber)),
		then(node(api.TypeNum, seq(sign("-"), token(api.TokNumber))), func(_ int, v []*thing) *thing {
			v[0].num = -v[0].num
			return v[0]
		}),
		node(api.TypeStr, token(api.TokString)),
		rule("ObjectType"),
	)
	var words []*part
	for _, w := range strings.Fields("null undefined true false") {
		words = append(words, node(api.TypeName, seq(spoken(w), list(seq()))))
	}
	// Behind a name in a type a `<` is no other sign.
	args := or(seq(ends("<"), list(seq())), rule("FullTypeArgs"))
	g["TypeRef"] = or(
		then(seq(node(isText, seq(name(), many(seq(sign("."), name())))), args), func(at int, v []*thing) *thing {
			return &thing{kind: api.TypeName, text: v[0].text, at: at, kids: v[1:]}
		}),
		words[0], words[1], words[2], words[3],
	)
	between := or(sign(";"), sign(","))
	g["ObjectType"] = node(api.TypeObject, inside("{", opt(seq(rule("Piece"), many(seq(between, rule("Piece"))), opt(between))), "}"))
	g["Piece"] = or(
		node(api.TypeProp, seq(name(), opt(says(api.Optional, sign("?"))), behind(":", "Type"))),
		node(api.TypeProp, seq(name(), node(api.TypeFunc, seq(inside("(", rule("Params"), ")"), behind(":", "Type"))))),
	)
}

// slow goes through a text's tokens by the grammar, all ways at once. A place is four times a token's number, and how many of its characters are taken.
type slow struct {
	grammar map[string]*part
	tokens  []api.Token
	known   map[string]map[int][]arrived
}

// arrived is how far a way went, and what it made.
type arrived struct {
	p int
	v []*thing
}

func newSlow(g map[string]*part, tokens []api.Token) *slow {
	return &slow{g, tokens, map[string]map[int][]arrived{}}
}

// at is the token that stands at a place, or what is left of it.
func (s *slow) at(p int) api.Token {
	t := s.tokens[p/4]
	if p%4 != 0 {
		t.Text, t.At = t.Text[p%4:], t.At+p%4
	}
	return t
}

func (s *slow) stands(p int, text string) bool {
	t := s.at(p)
	return (t.Kind == api.TokSign || t.Kind == api.TokWord) && t.Text == text
}

// arrow tells whether an Arrow begins at a place, or a TypeFunc where it is a `(`.
func (s *slow) arrow(p int) bool {
	if s.stands(p, "<") || s.at(p).Kind == api.TokName && s.stands(p/4*4+4, "=>") {
		return true
	}
	if !s.stands(p, "(") {
		return false
	}
	for n := p/4 + 1; n < len(s.tokens); n++ {
		// The bracket is closed where what stands from it on leaves none open.
		if opens(s.tokens[p/4:n+1]) == 0 {
			return s.stands(4*(n+1), "=>")
		}
	}
	return false
}

// opens is how many brackets tokens leave open.
func opens(l []api.Token) int {
	count := 0
	for _, t := range l {
		if d, _ := lex.Depth([]api.Token{t}, 0); d == 1 {
			count++
		} else if d, _ := lex.Depth([]api.Token{{Kind: api.TokHead}, t, {Kind: api.TokHead}}, 0); d == 1 {
			count--
		}
	}
	return count
}

// typedCall tells whether the TypeArgs of a call begin at a place.
func (s *slow) typedCall(p int) bool {
	if !s.stands(p, "<") {
		return false
	}
	for _, w := range s.all(rule("FullTypeArgs"), p) {
		if s.stands(w.p, "(") {
			return true
		}
	}
	return false
}

// all is every way through a part from a place on.
func (s *slow) all(x *part, p int) []arrived {
	switch x.op {
	case "seq":
		ways := []arrived{{p: p}}
		for i, y := range x.parts {
			if i == 0 {
				ways = s.all(y, p)
			} else if len(ways) > 0 {
				ways = s.further(ways, y)
			}
		}
		return ways
	case "or":
		var ways []arrived
		for _, y := range x.parts {
			ways = append(ways, s.all(y, p)...)
		}
		return ways
	case "many":
		ways := []arrived{{p: p}}
		for last := ways; len(last) > 0; ways = append(ways, last...) {
			last = s.further(last, x.parts[0])
		}
		return ways
	case "rule":
		return s.rule(x.text, p)
	case "node", "then":
		return s.made(x, p)
	case "guard":
		if x.guard(s, p) {
			return []arrived{{p: p}}
		}
		return nil
	case "num":
		return []arrived{{p: p, v: []*thing{{kind: isNum, num: x.kind}}}}
	}
	return s.one(x, p)
}

// one is the way through a token, or a piece of it.
func (s *slow) one(x *part, p int) []arrived {
	t, next := s.at(p), (p/4+1)*4
	switch {
	case x.op == "sign" && s.stands(p, x.text), x.op == "angle" && s.stands(p, ">"):
		return []arrived{{p: next}}
	case x.op == "spoken" && s.stands(p, x.text):
		return []arrived{{next, []*thing{{kind: isText, text: t.Text}}}}
	case x.op == "token" && t.Kind == x.kind:
		return []arrived{{next, tokenSays(t)}}
	case x.op == "angle" && t.Kind == api.TokSign && strings.HasPrefix(t.Text, ">"):
		return []arrived{{p: p + 1}}
	}
	return nil
}

// tokenSays is what a token gives to the node that is made of it.
func tokenSays(t api.Token) []*thing {
	switch t.Kind {
	case api.TokEnd:
		return nil
	case api.TokNumber:
		n, err := strconv.Atoi(t.Text)
		if err != nil {
			panic(err)
		}
		return []*thing{{kind: isNum, num: n}}
	}
	return []*thing{{kind: isText, text: t.Text}}
}

// further is every way that goes on by a part.
func (s *slow) further(ways []arrived, x *part) []arrived {
	var l []arrived
	for _, w := range ways {
		for _, f := range s.all(x, w.p) {
			l = append(l, arrived{f.p, slices.Concat(w.v, f.v)})
		}
	}
	return l
}

func (s *slow) rule(name string, p int) []arrived {
	if s.known[name] == nil {
		s.known[name] = map[int][]arrived{}
	}
	ways, ok := s.known[name][p]
	if !ok {
		ways = s.all(s.grammar[name], p)
		s.known[name][p] = ways
	}
	return ways
}

// made is every way through a part that makes one thing of what is within.
func (s *slow) made(x *part, p int) []arrived {
	var l []arrived
	at := s.at(p).At
	for _, w := range s.all(x.parts[0], p) {
		var y *thing
		if x.op == "then" {
			y = x.act(at, w.v)
		} else {
			y = gathered(x.kind, at, w.v)
		}
		if y != nil {
			l = append(l, arrived{w.p, []*thing{y}})
		}
	}
	return l
}

// gathered is a node with the Text, the Num and the kids that things give.
func gathered(kind, at int, v []*thing) *thing {
	x := &thing{kind: kind, at: at}
	for _, y := range v {
		switch y.kind {
		case isText:
			if kind == isText && x.text != "" {
				x.text += "."
			}
			x.text += y.text
		case isNum:
			x.num += y.num
		default:
			x.kids = append(x.kids, y)
		}
	}
	return x
}

// row puts a thing and all beneath it behind a tree's nodes.
func (x *thing) row(t *api.Tree) {
	n := len(t.Nodes)
	t.Nodes = append(t.Nodes, api.Node{Kind: x.kind, Text: x.text, Num: x.num, At: x.at})
	for _, y := range x.kids {
		t.Nodes[n].Kids = append(t.Nodes[n].Kids, len(t.Nodes))
		y.row(t)
	}
}

// trees is all trees of a text whose whole is a rule: it must be one, or none.
func trees(g map[string]*part, what string, tokens []api.Token) []api.Tree {
	var l []api.Tree
	s := newSlow(g, tokens)
	for _, w := range s.all(rule(what), 0) {
		if what != "Program" && s.at(w.p).Kind != api.TokEnd {
			continue
		}
		var t api.Tree
		w.v[0].row(&t)
		l = append(l, t)
	}
	return l
}
