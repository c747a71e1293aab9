package machine_test

import "strconv"

// expr is an expression that mostly is of a kind.
func (m *maker) expr(kind string) string {
	m.size--
	if m.chance(30) {
		kind = m.kind()
	}
	if m.size < 0 || m.nest > 3 || m.deep > 12 {
		if m.chance(2) {
			return m.name(kind)
		}
		return m.plain(kind)
	}
	m.nest++
	defer func() { m.nest-- }()
	if m.typed && m.chance(8) {
		return m.through("(" + m.expr(kind) + ")")
	}
	switch m.choose(9) {
	case 0:
		return m.plain(kind)
	case 1, 2:
		return m.name(kind)
	case 3:
		return m.anyHow(kind)
	}
	return m.made(kind)
}

// plain is an expression without others in it.
func (m *maker) plain(kind string) string {
	if m.typed && m.chance(3) {
		if s := m.ofEnums(kind); s != "" {
			return s
		}
	}
	switch kind {
	case "n":
		return pick(m, "0", "1", "2", "3", "7", "9007199254740991")
	case "s":
		return pick(m, `""`, `"a"`, `"b"`, `"length"`, `"aé"`, `"€x"`)
	case "b":
		return pick(m, "true", "false", "null")
	case "l":
		return "[]"
	case "o":
		if m.area.this {
			return "this"
		}
		return "{}"
	case "f":
		return pick(m, "print", "input")
	}
	return pick(m, "undefined", "null", "true", "1", `"x"`)
}

// anyHow is an expression whose kind is that of what is in it, or that is not known.
func (m *maker) anyHow(kind string) string {
	if m.area.base && m.chance(4) {
		return m.superMember()
	}
	most := 9
	if kind != "x" {
		most = 4
	}
	switch m.choose(most) {
	case 0:
		return "(" + m.expr("b") + " ? " + m.expr(kind) + " : " + m.expr(kind) + ")"
	case 1:
		return "(" + m.expr(kind) + pick(m, " || ", " && ") + m.expr(kind) + ")"
	case 2:
		return "(" + m.assign(kind) + ")"
	case 3:
		return "(" + m.object() + "." + m.key() + " || " + m.plain(kind) + ")"
	case 8:
		return m.object() + "." + m.key()
	case 4:
		return m.list() + "[" + m.expr("n") + "]"
	case 5, 6:
		return m.through(m.callee()) + m.typeArgs() + "(" + m.exprs(3) + ")"
	}
	return "input()"
}

// callee is what may stand ahead of the arguments of a Call.
func (m *maker) callee() string {
	switch m.choose(7) {
	case 0:
		return m.object() + "." + pick(m, "m", "k", "a", "push")
	case 1:
		return m.list() + ".push"
	case 2:
		return m.object() + "[" + m.expr("s") + "]"
	case 3:
		return "(" + m.expr("f") + ")"
	case 4:
		return "print"
	}
	return m.name("f")
}

func (m *maker) object() string { return "(" + m.expr("o") + ")" }
func (m *maker) list() string   { return "(" + m.expr("l") + ")" }

// made is an expression of a kind, with others in it.
func (m *maker) made(kind string) string {
	switch kind {
	case "n":
		switch m.choose(4) {
		case 0:
			return "(" + pick(m, "-", "~") + m.expr("n") + ")"
		case 1:
			return m.list() + pick(m, ".length", ".length", ".push("+m.exprs(2)+")")
		}
		return "(" + m.expr("n") + pick(m, " + ", " + ", " - ", " * ", " % ", " & ", " | ", " ^ ", " << ", " >> ", " >>> ") + m.expr("n") + ")"
	case "s":
		switch m.choose(4) {
		case 0:
			return "(" + m.expr("s") + " + " + m.expr(pick(m, "s", "n", "b")) + ")"
		case 1:
			return "(typeof " + m.expr("x") + ")"
		case 2:
			return m.template()
		}
		return "(" + m.expr("s") + ")[" + m.expr("n") + "]"
	case "b":
		switch m.choose(4) {
		case 0:
			return "(!" + m.expr("b") + ")"
		case 1:
			return "(" + m.expr("s") + " in " + m.expr("o") + ")"
		case 2:
			return "(" + m.expr("s") + pick(m, " < ", " >= ") + m.expr("s") + ")"
		}
		return "(" + m.expr("n") + pick(m, " < ", " <= ", " > ", " >= ", " === ", " !== ") + m.expr("n") + ")"
	case "l":
		return "[" + m.exprs(3) + "]"
	case "o":
		return m.madeObject()
	case "f":
		return m.arrow()
	}
	return m.anyHow(kind)
}

func (m *maker) madeObject() string {
	if l := m.visible("C", m.area); len(l) > 0 && m.chance(2) {
		return "new " + pick(m, l...) + m.typeArgs() + "(" + m.exprs(2) + ")"
	}
	s := "({"
	for i := range m.choose(3) {
		if i > 0 {
			s += ", "
		}
		s += m.key() + ": " + m.expr(pick(m, "n", "f", "x"))
	}
	return s + "})"
}

func (m *maker) template() string {
	s := "`" + pick(m, "", "t", strconv.Itoa(m.choose(3)))
	for range m.choose(3) {
		s += "${" + m.expr(m.kind()) + "}" + pick(m, "", " ")
	}
	return s + "`"
}
