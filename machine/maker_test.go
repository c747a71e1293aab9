package machine_test

import (
	"math/rand/v2"
	"strconv"
	"strings"
)

// maker makes programs as texts, by numbers that choose. Names tell by their first letter what they mostly stand for: a number, a text, a bool, a list, an object, a function, a Class, anything.
type maker struct {
	choose  func(n int) int     // 0 to n - 1
	typed   bool                // with what is not plain, too
	exports map[string][]string // what a Namespace exports, and what is exported within that
	count   int                 // of the names so far
	area    *area
	consts  map[string]int // names that may not be assigned to
	size    int            // how much more may be made
	deep    int
	nest    int // how many expressions stand about one another
}

// area is a scope that is being made.
type area struct {
	outer    *area
	names    []string
	later    []string // what it will declare yet
	function bool     // it is that of a function: what is used within it may be declared later
	loop     bool     // a Break may stand in it
	returns  int      // of a function: noReturn, bareReturn, anyReturn
	this     bool
	space    bool // it is a Namespace's
	ctor     bool // its names are a Ctor's Params
	base     bool // there is a Base: a SuperMember may stand in it
}

const (
	noReturn   = 0
	bareReturn = 1
	anyReturn  = 2
)

func newMaker(seed uint64) *maker {
	return &maker{choose: rand.New(rand.NewPCG(seed, 16)).IntN}
}

func pick[T any](m *maker, l ...T) T { return l[m.choose(len(l))] }

func (m *maker) chance(of int) bool { return m.choose(of) == 0 }

// program makes one.
func (m *maker) program(size int) string {
	m.size, m.deep, m.consts, m.exports = size, 0, map[string]int{}, map[string][]string{}
	m.area = &area{}
	first := ""
	for range m.choose(4) {
		m.area.later = []string{m.fresh("C")}
		first += m.share(m.declareLater) + " "
	}
	return first + m.statements(3+m.choose(6))
}

// in makes something in a scope of its own.
func (m *maker) in(a *area, make func() string) string {
	a.outer = m.area
	if !a.function && !a.space {
		a.loop = a.loop || m.area.loop
		a.returns, a.this, a.base = m.area.returns, m.area.this, m.area.base
	}
	m.area = a
	m.deep++
	defer func() { m.area = a.outer; m.deep-- }()
	return make()
}

// fresh is a name for something of a kind; seldom one that is there already, further out.
func (m *maker) fresh(kind string) string {
	if m.chance(6) && m.area.outer != nil {
		if l := simple(m.visible(kind, m.area.outer)); len(l) > 0 {
			name := pick(m, l...)
			if !m.has(m.area, name) && !m.has(m.area.outer, name) {
				return name
			}
		}
	}
	m.count++
	return kind + strconv.Itoa(m.count)
}

func (m *maker) has(a *area, name string) bool {
	for _, l := range [][]string{a.names, a.later} {
		for _, x := range l {
			if x == name {
				return true
			}
		}
	}
	return false
}

// visible are the names of a kind that may be used.
func (m *maker) visible(kind string, a *area) []string {
	var all []string
	between := false
	for ; a != nil; a = a.outer {
		l := a.names
		if between {
			l = append(l[:len(l):len(l)], a.later...)
		}
		for _, name := range l {
			if strings.HasPrefix(name, kind) && name[0] != 'K' {
				all = append(all, name)
			}
			for _, x := range m.exports[name] {
				if strings.HasPrefix(x[strings.LastIndexByte(x, '.')+1:], kind) {
					all = append(all, name+"."+x)
				}
			}
		}
		between = between || a.function
	}
	return all
}

// statements are some, in the present scope; what will be declared among them is known ahead.
func (m *maker) statements(count int) string {
	var funcs []string
	most := 3
	switch {
	case m.size < 0 || m.deep > 6:
		most = 1
	case m.deep > 2:
		most = 2
	}
	for range m.choose(most) {
		f := m.fresh("f")
		funcs = append(funcs, f)
		m.consts[f]++
		m.area.names = append(m.area.names, f)
	}
	for range m.choose(most) {
		m.area.later = append(m.area.later, m.fresh(m.laterKind()))
	}
	var l, made []string
	for _, f := range funcs {
		made = append(made, m.share(func() string { return m.exported(f, m.function("function "+f)) }))
	}
	for range count {
		if len(m.area.later) > 0 && m.chance(2) {
			l = append(l, m.share(m.declareLater))
		}
		l = append(l, m.statement())
	}
	for len(m.area.later) > 0 {
		l = append(l, m.share(m.declareLater))
	}
	for _, f := range made {
		at := m.choose(len(l) + 1)
		l = append(l[:at:at], append([]string{f}, l[at:]...)...)
	}
	return strings.Join(l, " ")
}

// share makes something with a part of what may be made yet.
func (m *maker) share(make func() string) string {
	part := m.size / 3
	rest := m.size - part
	nest := m.nest
	m.size, m.nest = part, 0
	defer func() { m.size += rest; m.nest = nest }()
	return make()
}

// simple are the names that are no Members.
func simple(names []string) []string {
	var l []string
	for _, name := range names {
		if !strings.Contains(name, ".") {
			l = append(l, name)
		}
	}
	return l
}

func (m *maker) kind() string { return pick(m, "n", "n", "s", "b", "l", "o", "f", "x") }

// laterKind is the kind of a name that will be declared: near the Program they are often Classes.
func (m *maker) laterKind() string {
	if m.typed && m.chance(3) {
		return pick(m, "K", "E", "N")
	}
	if m.choose(m.deep+2) < 2 {
		return pick(m, "C", "C", m.kind())
	}
	return m.kind()
}

// declareLater declares the first of the names that are still to be.
func (m *maker) declareLater() string {
	name := m.area.later[0]
	var s string
	switch name[0] {
	case 'C':
		s = m.class(name)
	case 'E', 'K':
		s = m.enum(name)
	case 'N':
		s = m.namespace(name)
	default:
		s = m.letOrConst(name) + name + m.ofType() + " = " + m.expr(name[:1]) + ";"
	}
	if name[0] != 'K' {
		s = m.exported(name, s)
	}
	m.area.later = m.area.later[1:]
	m.area.names = append(m.area.names, name)
	return s
}

func (m *maker) letOrConst(name string) string {
	if m.chance(3) {
		m.consts[name]++
		return "const "
	}
	return "let "
}

// block is a Block in its own scope.
func (m *maker) block(a *area) string {
	nest := m.nest
	m.nest = 0
	defer func() { m.nest = nest }()
	return "{ " + m.in(a, func() string { return m.statements(1 + m.choose(3)) }) + " }"
}

// statement is one; in the Program itself mostly one after which it goes on, whatever is thrown.
func (m *maker) statement() string {
	if m.area.outer != nil || m.chance(4) {
		return m.anyStatement()
	}
	return m.held(m.in(&area{}, m.anyStatement))
}

func (m *maker) held(statement string) string {
	name := m.fresh("x")
	return "try { " + statement + " } catch (" + name + ") { print(" + name + "); }"
}

func (m *maker) anyStatement() string {
	if m.typed && m.chance(12) {
		return m.forTypes()
	}
	if m.size--; m.size < 0 || m.deep > 9 {
		return pick(m, ";", "print("+m.name("x")+");")
	}
	switch {
	case m.area.loop && m.chance(8) || m.area.returns == anyReturn && m.chance(12):
		return m.leave()
	case m.area.base && m.chance(4):
		return "print(" + m.superMember() + ");"
	}
	switch m.choose(24) {
	case 18, 19:
		return "print(" + m.called() + ");"
	case 20, 21, 22:
		return m.held("print(" + m.called() + ");")
	case 0, 1:
		m.area.later = append([]string{m.fresh(m.kind())}, m.area.later...)
		return m.declareLater()
	case 2, 3, 4:
		return "print(" + m.exprs(3) + ");"
	case 5:
		return m.expr(m.kind()) + ";"
	case 6, 7:
		return m.assign(m.kind()) + ";"
	case 8:
		return m.branch()
	case 9, 10, 11:
		return m.loop()
	case 12, 13:
		return m.try()
	case 14:
		return m.block(&area{})
	case 15:
		if m.chance(4) {
			return "throw " + m.expr(m.kind()) + ";"
		}
		return ";"
	}
	return m.leave()
}

// called is a call of a function or of a method.
func (m *maker) called() string {
	if len(m.visible("C", m.area)) > 0 && m.chance(2) {
		return m.through(m.madeObject()+pick(m, ".m", ".k")) + m.typeArgs() + "(" + m.exprs(2) + ")"
	}
	return m.through(m.name("f")) + m.typeArgs() + "(" + m.exprs(3) + ")"
}

func (m *maker) superMember() string {
	return m.through("super."+pick(m, "m", "k", "v")) + pick(m, "", "("+m.exprs(2)+")", "("+m.exprs(2)+")")
}

// leave is what leaves a loop or a function, where it may stand.
func (m *maker) leave() string {
	if m.area.loop && m.chance(2) {
		return pick(m, "break;", "continue;")
	}
	switch m.area.returns {
	case anyReturn:
		return "return " + m.expr(m.kind()) + ";"
	case bareReturn:
		return "return;"
	}
	return ";"
}

func (m *maker) branch() string {
	s := "if (" + m.expr("b") + ") " + m.block(&area{})
	switch m.choose(4) {
	case 0:
		return s + " else " + m.block(&area{})
	case 1:
		return s + " else " + m.branch()
	}
	return s
}

func (m *maker) loop() string {
	switch m.choose(5) {
	case 0:
		return "while (" + m.expr("b") + ") " + m.block(&area{loop: true})
	case 1, 2:
		name := m.fresh(pick(m, "n", "s", "x"))
		of := m.expr(pick(m, "l", "l", "s", "x"))
		return "for (" + m.letOrConst(name) + name + " of " + of + ") " + m.in(&area{names: []string{name}, loop: true}, func() string { return m.block(&area{}) })
	}
	name := m.fresh("n")
	first := m.expr("n")
	return m.in(&area{names: []string{name}, loop: true}, func() string {
		test, after := name+" < "+strconv.Itoa(m.choose(5)), name+" += 1"
		if m.chance(6) {
			test = pick(m, "", m.expr("b"))
		}
		if m.chance(6) {
			after = pick(m, "", m.expr("x"), m.assign("n"))
		}
		return "for (" + pick(m, "let "+name+" = 0", "let "+name+m.ofType()+" = 0", "let "+name+" = "+first) + "; " + test + "; " + after + ") " + m.block(&area{})
	})
}

func (m *maker) try() string {
	s := "try " + m.block(&area{})
	how := m.choose(3)
	if how != 0 {
		name := m.fresh("x")
		s += " catch (" + name + ") " + m.in(&area{names: []string{name}}, func() string { return m.block(&area{}) })
	}
	if how != 1 {
		s += " finally " + m.block(&area{})
	}
	return s
}

// params are some, in a scope of their own, and what stands behind them.
func (m *maker) params(a area, behind func() string) string {
	a.function = true
	return m.in(&a, func() string {
		var l []string
		for range m.choose(3) {
			name := m.fresh(pick(m, "n", "n", "s", "l", "x"))
			m.area.names = append(m.area.names, name)
			l = append(l, m.param(name))
		}
		return m.typeParams() + "(" + strings.Join(l, ", ") + ")" + behind()
	})
}

func (m *maker) function(head string) string {
	return head + m.params(area{returns: anyReturn}, func() string { return m.ofType() + " " + m.block(&area{}) })
}

func (m *maker) arrow() string {
	return "(" + m.params(area{returns: anyReturn, this: m.area.this, base: m.area.base}, func() string {
		if m.chance(3) {
			return " => " + m.block(&area{})
		}
		return " => " + m.expr(pick(m, "n", "x"))
	}) + ")"
}

func (m *maker) class(name string) string {
	bases := simple(m.visible("C", m.area))
	s := "class " + name + m.typeParams()
	if m.size -= 5; m.size < 0 {
		return s + " {}"
	}
	base := len(bases) > 0 && !m.chance(4)
	if base {
		s += " extends " + pick(m, bases...) + m.typeArgs()
	}
	s += m.implements() + " {"
	for range m.choose(3) {
		s += " " + m.field() + " = " + m.in(&area{function: true, this: true, base: base}, func() string { return m.expr(pick(m, "n", "x", "f")) }) + ";"
	}
	for range 1 + m.choose(2) {
		s += " " + pick(m, "m", "k") + m.params(area{returns: anyReturn, this: true, base: base}, func() string { return m.ofType() + " " + m.block(&area{}) })
	}
	if m.chance(2) {
		s += " constructor" + m.params(area{returns: bareReturn, this: true, base: base, ctor: true}, func() string {
			first := ""
			if base {
				first = "super(" + m.exprs(2) + "); "
			}
			return " { " + first + m.in(&area{}, func() string { return m.statements(1 + m.choose(2)) }) + " }"
		})
	}
	return s + " }"
}

func (m *maker) key() string { return pick(m, "a", "b", "v", "m", "length") }

// exprs are some, separated by commas.
func (m *maker) exprs(most int) string {
	var l []string
	for range m.choose(most + 1) {
		l = append(l, m.expr(m.kind()))
	}
	return strings.Join(l, ", ")
}

// name is one of a kind that may be used, or something like it.
func (m *maker) name(kind string) string {
	if l := m.visible(strings.Trim(kind, "x"), m.area); len(l) > 0 {
		return pick(m, l...)
	}
	return m.plain(kind)
}

// assignable is a name of a kind that may be assigned to; empty, if there is none.
func (m *maker) assignable(kind string) string {
	var l []string
	for _, name := range m.visible(strings.Trim(kind, "x"), m.area) {
		if m.consts[name] == 0 && !strings.Contains("CEN", name[:1]) && (name[0] != 'f' || kind == "f") {
			l = append(l, name)
		}
	}
	if len(l) == 0 {
		return ""
	}
	return pick(m, l...)
}

func (m *maker) assign(kind string) string {
	sign := pick(m, " = ", " = ", " += ", " += ", " -= ", " *= ", " %= ")
	with := m.expr(pick(m, kind, "n"))
	switch m.choose(4) {
	case 0:
		return "(" + m.expr(pick(m, "o", "o", "x")) + ")." + m.key() + sign + with
	case 1:
		return m.list() + "[" + m.expr("n") + "]" + sign + with
	case 2:
		return m.object() + "[" + m.expr(pick(m, "s", "n")) + "]" + sign + with
	}
	if to := m.assignable(kind); to != "" {
		return to + sign + with
	}
	return "([]).a" + sign + with
}
