package erase_test

import (
	"strconv"
	"strings"
	"testing"

	"shuck/api"
	"shuck/bind"
	"shuck/core"
	"shuck/fold"
	"shuck/parse"
	"shuck/text"
)

// slow goes through a program that chapter 7 takes word by word as the chapter does.
type slow struct {
	t    *testing.T
	x    api.Tree
	l    []api.Node
	up   []int       // of each node, the one that it is a kid of; -1 of the root
	uses map[int]int // of each use, what it stands for
}

func newSlow(t *testing.T, x api.Tree, uses []api.Use) slow {
	s := slow{t, x, x.Nodes, make([]int, len(x.Nodes)), map[int]int{}}
	s.up[0] = -1
	for n, node := range s.l {
		for _, kid := range node.Kids {
			s.up[kid] = n
		}
	}
	for _, u := range uses {
		s.uses[u.At] = u.Decl
	}
	return s
}

func (s slow) is(n int, words string) bool { return n >= 0 && isOf(s.l[n].Kind, words) }

// constEnum is the Const Enum that a node stands for as a use, if it does.
func (s slow) constEnum(n int) (int, bool) {
	d, ok := s.uses[n]
	return d, ok && s.is(d, "Enum") && s.l[d].Num == api.Const
}

// offends tells why a node offends; an empty text, if it does not.
func (s slow) offends(n int) string {
	if s.is(n, "EnumMember") {
		if _, at, e := fold.Members(s.x, s.up[n]); e == api.ErrType && at == n {
			return "refused"
		}
	}
	enum, ok := s.constEnum(n)
	if !ok {
		return ""
	}
	if s.is(n, "Base") {
		return "a Base"
	}
	member := s.up[n]
	if !s.is(member, "Member") {
		return "alone"
	}
	names := false
	for _, m := range s.l[enum].Kids {
		names = names || s.l[m].Text == s.l[member].Text
	}
	if !names {
		return "no member"
	}
	for k, node := range s.l {
		if s.is(k, "Assign") && node.Kids[0] == member {
			return "assigned"
		}
		if !s.is(k, "New") {
			continue
		}
		for first := node.Kids[0]; s.is(first, "Member"); first = s.l[first].Kids[0] {
			if first == member {
				return "made"
			}
		}
	}
	return ""
}

// slowly is what Program must answer, and why a node offends.
func slowly(t *testing.T, x api.Tree) (answer, string) {
	t.Helper()
	uses, n, e := bind.Program(x)
	if e != api.OK {
		return answer{api.Tree{}, n, e}, "chapter 7"
	}
	s := newSlow(t, x, uses)
	for n := range s.l {
		if why := s.offends(n); why != "" {
			return answer{api.Tree{}, n, api.ErrType}, why
		}
	}
	// What chapter 5 leaves, and then what comes besides.
	left, e := core.Strip(x)
	if e != api.OK {
		t.Fatalf("Strip: %v", e)
	}
	uses, n, e = bind.Program(left)
	if e != api.OK {
		t.Fatalf("stripped: %d, %v", n, e)
	}
	left, _ = lay(newSlow(t, left, uses).besides(0)[0])
	return answer{left, -1, api.OK}, ""
}

// besides is what is left of a node of what is stripped.
func (s slow) besides(n int) []*thing {
	node := s.l[n]
	y := &thing{kind: node.Kind, text: node.Text, num: node.Num, at: node.At}
	switch {
	case s.is(n, "Enum") && node.Num == api.Const:
		return nil
	case s.is(n, "Enum"):
		return []*thing{s.written("const "+node.Text+" = {"+strings.Join(s.members(n), ", ")+"};", node.At)}
	case s.is(n, "Export"):
		return s.besides(node.Kids[0])
	case s.is(n, "Namespace"):
		return []*thing{s.namespace(n)}
	case s.is(n, "Param"):
		y.num = 0
	case s.is(n, "Member"):
		if enum, ok := s.constEnum(node.Kids[0]); ok {
			return []*thing{s.written(s.valueOf(enum, node.Text)+";", node.At).kids[0]}
		}
	}
	for _, kid := range node.Kids {
		y.kids = append(y.kids, s.besides(kid)...)
	}
	if s.is(n, "Ctor") {
		s.assigns(n, y.kids[1])
	}
	return []*thing{y}
}

// written is the one statement of a text, all of whose nodes have that At.
func (s slow) written(words string, at int) *thing {
	x, byte, e := parse.Program([]byte(words))
	if e != api.OK || len(x.Nodes[0].Kids) != 1 {
		s.t.Fatalf("%s: %d, %v", words, byte, e)
	}
	y := thingOf(x, 1)
	var move func(y *thing)
	move = func(y *thing) {
		y.at = at
		for _, kid := range y.kids {
			move(kid)
		}
	}
	move(y)
	return y
}

// members are the words of an Object's Props, one for each member of an Enum.
func (s slow) members(enum int) []string {
	l, _, e := fold.Members(s.x, enum)
	if e != api.OK {
		s.t.Fatalf("members: %v", e)
	}
	var words []string
	for _, c := range l {
		if c.IsText {
			words = append(words, c.Name+": "+text.Quote(c.Text))
		} else {
			words = append(words, c.Name+": "+strconv.Itoa(c.Num))
		}
	}
	return words
}

// valueOf is the words of one member of an Enum.
func (s slow) valueOf(enum int, name string) string {
	for _, words := range s.members(enum) {
		if value, ok := strings.CutPrefix(words, name+": "); ok {
			return value
		}
	}
	s.t.Fatalf("no member %s", name)
	return ""
}

// namespace is the Var of a Namespace.
func (s slow) namespace(n int) *thing {
	var statements []*thing
	var props []string
	for _, kid := range s.l[n].Kids {
		statements = append(statements, s.besides(kid)...)
		if s.is(kid, "Export") {
			name := s.l[s.l[kid].Kids[0]].Text
			props = append(props, name+": "+name)
		}
	}
	y := s.written("const "+s.l[n].Text+" = (() => { return {"+strings.Join(props, ", ")+"}; })();", s.l[n].At)
	block := y.kids[1].kids[0].kids[2]
	block.kids = append(statements, block.kids...)
	return y
}

// assigns lays into a Ctor's Block what makes members of its Params.
func (s slow) assigns(ctor int, block *thing) {
	var first, rest []*thing
	rest = block.kids
	class := s.l[s.up[s.up[ctor]]]
	if s.is(class.Kids[1], "Base") {
		first, rest = rest[:1:1], rest[1:]
	}
	for _, p := range s.l[s.l[ctor].Kids[0]].Kids {
		if param := s.l[p]; param.Num == api.Public {
			first = append(first, s.written("this."+param.Text+" = "+param.Text+";", param.At))
		}
	}
	block.kids = append(first, rest...)
}
