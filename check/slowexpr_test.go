package check_test

import (
	"slices"

	"shuck/api"
	"shuck/narrow"
)

// The slow reading of expressions.

func (s *slow) keep(id int, t api.Test, yes bool) int { return s.must(narrow.Keep(s.a, id, t, yes)) }

// isOpen tells whether facts are kept of a Name.
func (s *slow) isOpen(n int) bool {
	return s.is(n, "Name") && s.uses[n] >= 0 && s.is(s.uses[n], "Var Param ForOf Catch")
}

// oneValue tells whether an expression is one of those that have one value.
func (s *slow) oneValue(n int) bool {
	switch {
	case s.is(n, "Num Str True False Null Undefined"):
		return true
	case s.is(n, "Unary"):
		return s.l[n].Text == "-" && s.is(s.kidsOf(n)[0], "Num")
	case s.is(n, "Member"):
		return s.at(s.types[s.kidsOf(n)[0]]).Kind == api.KCases && s.at(s.types[n]).Kind == api.KCase
	}
	return false
}

// cond is facts behind a condition that says yes, or no.
func (s *slow) cond(n int, yes bool, f known) known {
	node := s.l[n]
	held := func(name int, t api.Test, yes bool) known {
		return fact(f, s.uses[name], s.keep(s.nameType(name, f), t, yes))
	}
	switch {
	case s.isOpen(n):
		return held(n, api.Test{Kind: api.TestTruth}, yes)
	case node.Kind == api.Unary && node.Text == "!":
		return s.cond(node.Kids[0], !yes, f)
	case node.Kind != api.Binary:
		return f
	case node.Text == "&&" && yes, node.Text == "||" && !yes:
		return s.cond(node.Kids[1], yes, s.cond(node.Kids[0], yes, f))
	case node.Text == "in" && s.is(node.Kids[0], "Str") && s.isOpen(node.Kids[1]):
		return held(node.Kids[1], api.Test{Kind: api.TestHas, Text: s.l[node.Kids[0]].Text}, yes)
	case node.Text != "===" && node.Text != "!==":
		return f
	}
	if node.Text == "!==" {
		yes = !yes
	}
	for i, kid := range node.Kids {
		other := node.Kids[1-i]
		of := 0
		if s.is(kid, "Unary Member") {
			of = s.kidsOf(kid)[0]
		}
		switch {
		case s.is(kid, "Unary") && s.l[kid].Text == "typeof" && s.isOpen(of) && s.is(other, "Str"):
			return held(of, api.Test{Kind: api.TestKind, Text: s.l[other].Text}, yes)
		case s.isOpen(kid) && s.oneValue(other):
			return held(kid, api.Test{Kind: api.TestIs, Type: s.types[other]}, yes)
		case s.is(kid, "Member") && s.isOpen(of) && s.oneValue(other):
			return held(of, api.Test{Kind: api.TestField, Text: s.l[kid].Text, Type: s.types[other]}, yes)
		}
	}
	return f
}

// nameType is what is known of a Name, or what is declared.
func (s *slow) nameType(n int, f known) int {
	if id, ok := f[s.uses[n]]; ok && s.uses[n] >= 0 {
		return id
	}
	return s.declaredType(n, s.uses[n])
}

func (s *slow) declaredType(n, d int) int {
	if d < 0 {
		answer := s.word("undefined")
		if s.l[n].Text == "input" {
			answer = s.union(s.word("null"), s.word("string"))
		}
		return s.find(api.Type{Kind: api.KFunc, Parts: []int{answer}})
	}
	kids := s.kidsOf(d)
	switch s.kind(d) {
	case api.Var:
		if !s.is(kids[0], "-") {
			return s.typ(kids[0])
		}
		if n < s.end(d) {
			return s.word("any")
		}
		id := s.types[kids[1]]
		if kind := s.at(id).Kind; s.l[d].Num == api.Let || kind == api.KArray || kind == api.KObject {
			return s.widen(id)
		}
		return id
	case api.Func:
		return s.anys(s.function(d), s.params(d))
	case api.Class:
		return s.bear(api.KClass, d)
	case api.Enum:
		return s.bear(api.KCases, d)
	case api.Namespace:
		return s.bear(api.KSpace, d)
	case api.Param:
		return s.param(d)
	case api.ForOf:
		return s.elements(d)
	}
	return s.word("unknown")
}

// all goes through expressions in order.
func (s *slow) all(l []int, f known) ([]int, known) {
	var ids []int
	for _, n := range l {
		var id int
		id, f = s.expr(n, f)
		ids = append(ids, id)
	}
	return ids, f
}

func (s *slow) expr(n int, f known) (int, known) {
	id, f := s.exprAt(n, f)
	s.types[n] = id
	return id, f
}

func (s *slow) exprAt(n int, f known) (int, known) {
	node := s.l[n]
	switch node.Kind {
	case api.Num:
		return s.find(api.Type{Kind: api.KNumIs, Num: node.Num}), f
	case api.Str:
		return s.find(api.Type{Kind: api.KStrIs, Text: node.Text}), f
	case api.True, api.False, api.Null, api.Undefined:
		return s.word(map[int]string{api.True: "true", api.False: "false", api.Null: "null", api.Undefined: "undefined"}[node.Kind]), f
	case api.This:
		return s.own(s.up[s.up[s.inner(n, "Func Method Ctor")]]), f
	case api.Name:
		if d := s.uses[n]; d >= 0 && s.is(d, "Enum") && s.l[d].Num == api.Const && !s.is(s.up[n], "Member") {
			s.offend(n, "const enum")
		}
		return s.nameType(n, f), f
	case api.Template:
		_, f = s.all(node.Kids, f)
		return s.word("string"), f
	case api.Array:
		l, f := s.all(node.Kids, f)
		for i := range l {
			l[i] = s.widen(l[i])
		}
		return s.find(api.Type{Kind: api.KArray, Parts: []int{s.union(l...)}}), f
	case api.Object:
		for _, p := range node.Kids {
			_, f = s.expr(s.kidsOf(p)[0], f)
		}
		return s.object(n, func(p int) int { return s.types[s.kidsOf(p)[0]] }), f
	case api.Arrow:
		return s.anys(s.fn(node.Kids[1], s.arrowAnswer(n, f)), s.params(n)), f
	case api.Cond:
		_, f = s.expr(node.Kids[0], f)
		x, a := s.expr(node.Kids[1], s.cond(node.Kids[0], true, f))
		y, b := s.expr(node.Kids[2], s.cond(node.Kids[0], false, f))
		return s.union(x, y), s.join(spot{a, true}, spot{b, true}).f
	case api.As:
		x, f := s.expr(node.Kids[0], f)
		y := s.typ(node.Kids[1])
		if up, down := s.takes(x, y), s.takes(y, x); !up && !down {
			s.offend(n, "itself")
		}
		return y, f
	case api.Unary:
		return s.unary(n, f)
	case api.Binary:
		return s.binary(n, f)
	case api.Assign:
		return s.assign(n, f)
	case api.Bang:
		x, f := s.expr(node.Kids[0], f)
		x = s.keep(x, api.Test{Kind: api.TestIs, Type: s.word("undefined")}, false)
		x = s.keep(x, api.Test{Kind: api.TestIs, Type: s.word("null")}, false)
		var l []int
		for _, part := range s.parts(x) {
			if part != s.word("void") {
				l = append(l, part)
			}
		}
		return s.union(l...), f
	case api.Member:
		x, f := s.expr(node.Kids[0], f)
		return s.gives(n, x, func(part int) int { return s.memberOf(n, part) }), f
	case api.Index:
		l, f := s.all(node.Kids, f)
		if !s.isAny(l[0]) {
			s.ask(s.word("number"), node.Kids[1], l[1])
		}
		return s.gives(n, l[0], s.elementOf), f
	}
	return s.calls(n, f)
}

// gives is what the parts of a type give together; -1 is nothing.
func (s *slow) gives(n, id int, of func(part int) int) int {
	var l []int
	for _, part := range s.parts(id) {
		given := of(part)
		if given < 0 {
			s.offend(n, "itself")
			given = s.word("any")
		}
		l = append(l, given)
	}
	return s.union(l...)
}

func (s *slow) elementOf(part int) int {
	switch t := s.at(part); t.Kind {
	case api.KAny:
		return part
	case api.KArray:
		return t.Parts[0]
	case api.KString, api.KStrIs:
		return s.word("string")
	}
	return -1
}

func (s *slow) memberOf(n, part int) int {
	name, t := s.l[n].Text, s.at(part)
	switch {
	case t.Kind == api.KAny:
		return part
	case (t.Kind == api.KString || t.Kind == api.KStrIs || t.Kind == api.KArray) && name == "length":
		return s.word("number")
	case t.Kind == api.KArray && name == "push":
		return s.find(api.Type{Kind: api.KFunc, Parts: []int{t.Parts[0], s.word("number")}, Marks: []bool{false}})
	case t.Kind == api.KCases:
		if d := s.named(s.kidsOf(t.Num), name); d >= 0 {
			return s.bear(api.KCase, d, s.bear(api.KEnum, t.Num))
		}
	case t.Kind == api.KSpace:
		if d := s.named(s.exports(t.Num, asValues), name); d >= 0 {
			return s.declaredType(n, d)
		}
	}
	l, _ := s.pieces(part)
	for _, p := range l {
		if p.Name == name && p.Mark {
			return s.union(p.Type, s.word("undefined"))
		} else if p.Name == name {
			return p.Type
		}
	}
	return -1
}

func (s *slow) arrowAnswer(n int, f known) int {
	body := s.kidsOf(n)[2]
	if !s.is(body, "Block") {
		id, _ := s.expr(body, s.begin(f).f)
		return s.widen(id)
	}
	end := s.stmts(body, s.begin(f))
	var l []int
	some := false
	for _, r := range s.beneath(body, func(m int) bool { return s.is(m, "Return") && s.inner(m, "Func Method Ctor Arrow") == n }) {
		if value := s.kidsOf(r)[0]; s.is(value, "-") {
			l = append(l, s.word("undefined"))
		} else {
			l = append(l, s.widen(s.types[value]))
			some = true
		}
	}
	if end.reached {
		l = append(l, s.word("undefined"))
	}
	if !some {
		return s.word("void")
	}
	return s.union(l...)
}

func (s *slow) boolean() int { return s.union(s.word("true"), s.word("false")) }

func (s *slow) unary(n int, f known) (int, known) {
	kid := s.kidsOf(n)[0]
	x, f := s.expr(kid, f)
	switch s.l[n].Text {
	case "!":
		return s.boolean(), f
	case "typeof":
		return s.word("string"), f
	}
	s.ask(s.word("number"), kid, x)
	if t := s.at(x); s.l[n].Text == "-" && t.Kind == api.KNumIs {
		return s.find(api.Type{Kind: api.KNumIs, Num: -t.Num}), f
	}
	return s.word("number"), f
}

func (s *slow) binary(n int, f known) (int, known) {
	node := s.l[n]
	if node.Text != "&&" && node.Text != "||" {
		l, f := s.all(node.Kids, f)
		return s.reckon(n, node.Text, l[0], l[1]), f
	}
	x, f := s.expr(node.Kids[0], f)
	y, a := s.expr(node.Kids[1], s.cond(node.Kids[0], node.Text == "&&", f))
	b := s.cond(node.Kids[0], node.Text == "||", f)
	return s.union(s.keep(x, api.Test{Kind: api.TestTruth}, node.Text == "||"), y), s.join(spot{a, true}, spot{b, true}).f
}

// reckon is the type of a Binary of a sign; n may be an Assign.
func (s *slow) reckon(n int, sign string, x, y int) int {
	number, text := s.word("number"), s.word("string")
	left, right := s.kidsOf(n)[0], s.kidsOf(n)[1]
	switch sign {
	case "===", "!==":
		return s.boolean()
	case "in":
		s.ask(text, left, x)
		if _, some := s.pieces(y); !some && !s.isAny(y) {
			s.offend(right, "asked")
		}
		return s.boolean()
	case "<", "<=", ">", ">=":
		nx, ny, tx, ty := s.takes(number, x), s.takes(number, y), s.takes(text, x), s.takes(text, y)
		if !(nx && ny) && !(tx && ty) {
			s.offend(n, "itself")
		}
		return s.boolean()
	case "+":
		six := s.union(text, number, s.word("false"), s.word("true"), s.word("null"), s.word("undefined"))
		nx, ny, tx, ty := s.takes(number, x), s.takes(number, y), s.takes(text, x), s.takes(text, y)
		sx, sy := s.takes(six, x), s.takes(six, y)
		switch {
		case s.isAny(x), s.isAny(y):
			return s.word("any")
		case nx && ny:
			return number
		case tx && sy, ty && sx:
			return text
		}
		s.offend(n, "itself")
		return s.word("any")
	}
	s.ask(number, left, x)
	s.ask(number, right, y)
	return number
}

func (s *slow) assign(n int, f known) (int, known) {
	node := s.l[n]
	left, right := node.Kids[0], node.Kids[1]
	l, f := s.all(node.Kids, f)
	x, y := l[0], l[1]
	wanted := x
	if s.is(left, "Name") {
		wanted = s.declaredType(left, s.uses[left])
	}
	if s.is(left, "Member") {
		s.readonly(left)
	}
	if node.Text == "=" {
		s.ask(wanted, right, y)
	} else {
		y = s.reckon(n, node.Text[:len(node.Text)-1], x, y)
		if !s.takes(wanted, y) {
			s.offend(n, "itself")
		}
	}
	if s.is(left, "Name") {
		f = fact(f, s.uses[left], s.must(narrow.Assigned(s.a, wanted, y)))
	}
	return y, f
}

// readonly has a Member offend that is readonly.
func (s *slow) readonly(n int) {
	kid := s.kidsOf(n)[0]
	for _, part := range s.parts(s.types[kid]) {
		t := s.at(part)
		if t.Kind != api.KRef {
			continue
		}
		m, ok := slotOf(s.slots(t.Num), s.l[n].Text)
		if !ok || !s.is(m.n, "Field Param") || s.l[m.n].Num&api.Readonly == 0 {
			continue
		}
		fn := s.inner(n, "Func Method Ctor")
		if s.is(kid, "This") && s.is(fn, "Ctor") && s.above(fn, "Class") == s.above(m.n, "Class") {
			continue
		}
		s.offend(n, "itself")
	}
}

// asks is a function's parameters, its Params, which of them may lack, and its answer.
type asks struct {
	vars, params []int
	marks        []bool
	answer       int
}

func (s *slow) asksOf(id int, vars []int) asks {
	t := s.at(id)
	return asks{vars, t.Parts[:len(t.Marks)], t.Marks, t.Parts[len(t.Marks)]}
}

// maker is how a Class makes its objects.
func (s *slow) maker(class int) asks {
	a := asks{vars: s.params(class), answer: s.own(class)}
	for _, m := range s.kidsOf(s.kidsOf(class)[3]) {
		if s.is(m, "Ctor") {
			marked := false
			for _, p := range s.kidsOf(s.kidsOf(m)[0]) {
				marked = marked || s.l[p].Num&api.Optional != 0
				a.params, a.marks = append(a.params, s.param(p)), append(a.marks, marked)
			}
			return a
		}
	}
	for _, h := range s.extends(class) {
		base := s.maker(h.d)
		for _, p := range base.params {
			a.params = append(a.params, s.must(s.a.Subst(p, base.vars, h.types)))
		}
		a.marks = base.marks
	}
	return a
}

// calls is Call, New, Super and SuperMember.
func (s *slow) calls(n int, f known) (int, known) {
	node := s.l[n]
	unsaid := s.word("any")
	switch node.Kind {
	case api.Super:
		l, f := s.all(s.kidsOf(node.Kids[0]), f)
		for _, h := range s.extends(s.above(s.inner(n, "Ctor"), "Class")) {
			s.called(n, s.maker(h.d), h.types, s.kidsOf(node.Kids[0]), l)
		}
		return s.word("undefined"), f
	case api.SuperMember:
		for _, h := range s.extends(s.up[s.up[s.inner(n, "Func Method Ctor")]]) {
			m, ok := slotOf(s.slots(h.d), node.Text)
			if ok && s.is(m.n, "Method") {
				return s.memberOf(n, s.bear(api.KRef, h.d, h.types...)), f
			}
		}
		s.offend(n, "itself")
		return unsaid, f
	}
	first, args := node.Kids[0], s.kidsOf(node.Kids[2])
	x, f := s.expr(first, f)
	types := s.list(node.Kids[1])
	l, f := s.all(args, f)
	kind := s.at(x).Kind
	switch {
	case node.Kind == api.New && kind == api.KClass:
		return s.called(n, s.maker(s.at(x).Num), types, args, l), f
	case node.Kind == api.New:
		if !s.isAny(x) {
			s.offend(first, "asked")
		}
		return unsaid, f
	case s.is(first, "Name") && s.uses[first] < 0 && s.l[first].Text == "print":
		return s.word("undefined"), f
	case s.is(first, "Name") && s.uses[first] < 0:
		if len(args) > 0 {
			s.offend(n, "itself")
		}
		return s.union(s.word("string"), s.word("null")), f
	case s.isAny(x) || s.bad[first] != "":
		return unsaid, f
	case kind != api.KFunc:
		s.offend(first, "asked")
		return unsaid, f
	case s.is(first, "Name") && s.is(s.uses[first], "Func"):
		d := s.uses[first]
		return s.called(n, s.asksOf(s.function(d), s.params(d)), types, args, l), f
	}
	var vars []int
	if s.is(first, "Member") {
		of := s.at(s.types[s.kidsOf(first)[0]])
		if of.Kind == api.KRef && s.is(of.Num, "Class") {
			if m, ok := slotOf(s.slots(of.Num), s.l[first].Text); ok && s.is(m.n, "Method") {
				vars = s.params(m.n)
			}
		}
	}
	return s.called(n, s.asksOf(x, vars), types, args, l), f
}

func (s *slow) called(n int, a asks, types, args, l []int) int {
	if len(types) > 0 && len(types) != len(a.vars) {
		s.offend(n, "itself")
		types = append(types, make([]int, len(a.vars))...)[:len(a.vars)]
	} else if len(types) == 0 {
		found := map[int]int{}
		seen := map[[2]string]bool{}
		for i := range args {
			if i < len(a.params) {
				s.match(a.params[i], l[i], a.vars, found, seen)
			}
		}
		for _, v := range a.vars {
			id, ok := found[v]
			if !ok {
				id = s.word("unknown")
			}
			types = append(types, id)
		}
	}
	least := 0
	for _, m := range a.marks {
		if !m {
			least++
		}
	}
	if len(args) < least || len(args) > len(a.params) {
		s.offend(n, "itself")
	}
	for i := range args {
		if i < len(a.params) {
			s.ask(s.must(s.a.Subst(a.params[i], a.vars, types)), args[i], l[i])
		}
	}
	return s.must(s.a.Subst(a.answer, a.vars, types))
}

// match matches a Param's type with an argument's.
func (s *slow) match(p, x int, vars []int, found map[int]int, seen map[[2]string]bool) {
	key := [2]string{s.a.Text(p), s.a.Text(x)}
	if seen[key] {
		return
	}
	seen[key] = true
	a, b := s.at(p), s.at(x)
	on := func(p, x int) { s.match(p, x, vars, found, seen) }
	isVar := func(t api.Type) bool { return t.Kind == api.KVar && slices.Contains(vars, t.Num) }
	switch {
	case isVar(a):
		if _, ok := found[a.Num]; !ok {
			found[a.Num] = s.widen(x)
		}
	case a.Kind == api.KUnion:
		var left []int
		for _, part := range s.parts(x) {
			if !slices.Contains(a.Parts, part) {
				left = append(left, part)
			}
		}
		for _, part := range a.Parts {
			if isVar(s.at(part)) {
				on(part, s.union(left...))
			}
		}
	case a.Kind == api.KFunc && b.Kind == api.KFunc:
		for i := range a.Marks {
			if i < len(b.Marks) {
				on(a.Parts[i], b.Parts[i])
			}
		}
		on(a.Parts[len(a.Marks)], b.Parts[len(b.Marks)])
	case a.Kind == api.KArray && b.Kind == api.KArray, a.Kind == api.KRef && b.Kind == api.KRef && a.Num == b.Num:
		for i := range a.Parts {
			on(a.Parts[i], b.Parts[i])
		}
	case (a.Kind == api.KObject || a.Kind == api.KRef) && (b.Kind == api.KObject || b.Kind == api.KRef):
		mine, _ := s.pieces(p)
		its, _ := s.pieces(x)
		for _, m := range mine {
			for _, i := range its {
				if i.Name == m.Name {
					on(m.Type, i.Type)
				}
			}
		}
	}
}
