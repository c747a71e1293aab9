package machine_test

import (
	"slices"
	"strings"
)

// What the maker makes of what is not plain. Names of Enums begin with E, of Const ones with K, of Namespaces with N.

func newTypedMaker(seed uint64) *maker {
	m := newMaker(seed)
	m.typed = true
	return m
}

// aType is a type. What is named in one need not be there.
func (m *maker) aType() string {
	return pick(m, "any", "number", "T", "A.B<C>[]", `"x" | null | -1`, "{a: number; m(x: T, y?: any): void}", "(f: (x: any, n1) => T, x?: U) => any[]", "undefined | true[]")
}

// ofType is a type behind a name, or none.
func (m *maker) ofType() string {
	if !m.typed || m.chance(2) {
		return ""
	}
	return ": " + m.aType()
}

func (m *maker) typeParams() string {
	if !m.typed || !m.area.function || m.area.ctor || !m.chance(5) {
		return ""
	}
	return pick(m, "<T>", "<T, U>")
}

func (m *maker) typeArgs() string {
	if !m.typed || !m.chance(6) {
		return ""
	}
	return pick(m, "<number>", "<T, A.B<C<D>>>", "<(x?: any) => void>")
}

func (m *maker) implements() string {
	if !m.typed || !m.chance(5) {
		return ""
	}
	return pick(m, " implements I", " implements I<T>, J.K")
}

// forTypes is a statement that is for types.
func (m *maker) forTypes() string {
	return pick(m, "interface I { a: number; f(n1: T, g?: (x) => any): T }", "interface J<T> extends I, N.K<T> { b?: \"x\" }", "type T = "+m.aType()+";", "type U<T> = "+m.aType()+";")
}

// param is a Param; of a Ctor it may be a member, too.
func (m *maker) param(name string) string {
	if !m.typed {
		return name
	}
	if m.area.ctor {
		name = pick(m, "", "public ", "readonly ", "public readonly ") + name
	}
	return name + pick(m, "", "", "?") + m.ofType()
}

// field is a Field without its value; one that has none may stand ahead of it.
func (m *maker) field() string {
	if !m.typed {
		return m.key()
	}
	ahead := ""
	if m.chance(3) {
		ahead = pick(m, "", "readonly ") + m.key() + m.ofType() + "; "
	}
	return ahead + pick(m, "", "readonly ") + m.key() + m.ofType()
}

// through is an expression that may have As and Bang about it.
func (m *maker) through(s string) string {
	for n := 0; n < 3 && m.typed && m.chance(3); n++ {
		if m.chance(2) {
			s += "!"
		} else {
			s = "(" + s + " as " + m.aType() + ")"
		}
	}
	return s
}

// enum is an Enum; one that is Const has the members that ofEnums uses.
func (m *maker) enum(name string) string {
	value := func() string {
		return pick(m, "0", "-1", "3", "~2", "1 << 3", "7 % 4 - 9", "2 * -3", "9007199254740991")
	}
	if name[0] == 'K' {
		s := pick(m, "A", "A = "+value(), "length = -1, A") + `, B = "b", push = ` + value()
		return "const enum " + name + " { " + s + pick(m, "", ",", `, C = "c"`) + " }"
	}
	var l []string
	numbers := true
	for _, key := range []string{"A", "a", "b", "v", "m", "length"}[m.choose(3):] {
		switch m.choose(4) {
		case 0:
			l = append(l, key+` = "`+key+`x"`)
			numbers = false
		case 1:
			l = append(l, key+" = "+pick(m, "0", "-1", "3 << 2", "~2"))
			numbers = true
		case 2:
			if numbers {
				l = append(l, key)
			}
		}
	}
	return "enum " + name + " { " + strings.Join(l, ", ") + " }"
}

// ofEnums is an expression of a kind that an Enum has; empty, if there is none.
func (m *maker) ofEnums(kind string) string {
	if kind == "o" {
		if l := slices.Concat(m.visible("E", m.area), m.visible("N", m.area)); len(l) > 0 {
			return pick(m, l...)
		}
		return ""
	}
	var l []string
	between := false
	for a := m.area; a != nil; a = a.outer {
		names := a.names
		if between {
			names = slices.Concat(names, a.later)
		}
		for _, name := range names {
			if name[0] == 'K' {
				l = append(l, name)
			}
		}
		between = between || a.function
	}
	if len(l) == 0 {
		return ""
	}
	name := pick(m, l...)
	switch kind {
	case "n":
		return name + pick(m, ".A", ".push")
	case "s":
		return name + ".B"
	case "f":
		return name + pick(m, ".A", ".B", ".push")
	}
	return pick(m, "", name+".A", name+".B")
}

// namespace is a Namespace; what it exports is known behind it.
func (m *maker) namespace(name string) string {
	m.consts[name]++
	about := m.exports[exporting]
	m.exports[exporting] = nil
	s := m.in(&area{space: true}, func() string { return m.statements(m.choose(3)) })
	m.exports[name] = m.exports[exporting]
	m.exports[exporting] = about
	return "namespace " + name + " { " + s + " }"
}

// exporting is the name under which what a Namespace exports is noted while it is made.
const exporting = "."

// exported is a declaration, which may be exported where that may stand.
func (m *maker) exported(name, declaration string) string {
	if !m.area.space || strings.HasPrefix(declaration, "let ") || m.chance(4) {
		return declaration
	}
	m.exports[exporting] = append(m.exports[exporting], name)
	for _, x := range m.exports[name] {
		m.exports[exporting] = append(m.exports[exporting], name+"."+x)
	}
	return "export " + declaration
}
