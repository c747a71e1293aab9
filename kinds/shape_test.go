package kinds_test

import (
	"slices"
	"sort"
	"strconv"
	"strings"

	"shuck/api"
	"shuck/text"
)

// shape is a type with its Parts in it: what it is hangs on no arena. The tests reckon with shapes, by the document's words and without an eye to time.
type shape struct {
	kind  int
	num   int
	text  string
	parts []shape
	names []string
	marks []bool
}

// bareWords is the texts of the ten, in the order of their kinds.
var bareWords = strings.Fields("any unknown never void undefined null number string true false")

func bare(kind int) shape { return shape{kind: kind} }

func numIs(n int) shape { return shape{kind: api.KNumIs, num: n} }

func strIs(s string) shape { return shape{kind: api.KStrIs, text: s} }

func array(s shape) shape { return shape{kind: api.KArray, parts: []shape{s}} }

// arrays is so many arrays, one in another, about a shape.
func arrays(n int, s shape) shape {
	for range n {
		s = array(s)
	}
	return s
}

// declared is a shape that has a node and a name.
func declared(kind, num int, name string, parts ...shape) shape {
	return shape{kind: kind, num: num, text: name, parts: parts}
}

// object is an object with members m000, m001 and so on.
func object(parts ...shape) shape {
	o := shape{kind: api.KObject, parts: parts, marks: make([]bool, len(parts))}
	for i := range parts {
		o.names = append(o.names, "m"+strconv.Itoa(1000 + i)[1:])
	}
	return o
}

// times is so many of one shape.
func times(n int, s shape) []shape {
	l := make([]shape, n)
	for i := range l {
		l[i] = s
	}
	return l
}

func (s shape) size() int {
	n := 1
	for _, part := range s.parts {
		n += part.size()
	}
	return n
}

func (s shape) isOf(kinds ...int) bool { return slices.Contains(kinds, s.kind) }

// within is the text in parentheses, if it is of one of these kinds.
func (s shape) within(kinds ...int) string {
	if s.isOf(kinds...) {
		return "(" + s.words() + ")"
	}
	return s.words()
}

func texts(l []shape, kinds ...int) []string {
	var all []string
	for _, s := range l {
		all = append(all, s.within(kinds...))
	}
	return all
}

// words is the text of a shape.
func (s shape) words() string {
	named := s.text + "#" + strconv.Itoa(s.num)
	switch s.kind {
	case api.KNumIs:
		return strconv.Itoa(s.num)
	case api.KStrIs:
		return text.Quote(s.text)
	case api.KArray:
		return s.parts[0].within(api.KFunc, api.KUnion) + "[]"
	case api.KObject:
		var l []string
		for i, part := range s.parts {
			mark := map[bool]string{true: "?"}[s.marks[i]]
			l = append(l, s.names[i]+mark+": "+part.words())
		}
		return "{" + strings.Join(l, "; ") + "}"
	case api.KFunc:
		var l []string
		for i, mark := range s.marks {
			if mark {
				l = append(l, s.parts[i].within(api.KFunc, api.KUnion)+"?")
			} else {
				l = append(l, s.parts[i].words())
			}
		}
		return "(" + strings.Join(l, ", ") + ") => " + s.parts[len(s.parts)-1].words()
	case api.KUnion:
		l := texts(s.parts, api.KFunc)
		sort.Strings(l)
		return strings.Join(l, " | ")
	case api.KRef:
		if len(s.parts) > 0 {
			return named + "<" + strings.Join(texts(s.parts), ", ") + ">"
		}
		return named
	case api.KVar:
		return strings.Replace(named, "#", "'", 1)
	case api.KEnum:
		return strings.Replace(named, "#", "@", 1)
	case api.KCase:
		return s.parts[0].words() + "." + s.text
	case api.KClass:
		return "class " + named
	case api.KCases:
		return "enum " + named
	case api.KSpace:
		return "namespace " + named
	}
	return bareWords[s.kind-1]
}

func same(a, b shape) bool { return a.words() == b.words() }

func has(l []shape, s shape) bool {
	return slices.ContainsFunc(l, func(x shape) bool { return same(x, s) })
}

// union is P8.2, word by word.
func union(of ...shape) shape {
	var l []shape
	for _, s := range of {
		if s.kind == api.KUnion {
			l = append(l, s.parts...)
		} else {
			l = append(l, s)
		}
	}
	for _, top := range []shape{bare(api.KAny), bare(api.KUnknown)} {
		if has(l, top) {
			return top
		}
	}
	var left []shape
	for _, s := range l {
		gone := s.kind == api.KNever || has(left, s) ||
			s.kind == api.KNumIs && has(l, bare(api.KNumber)) ||
			s.kind == api.KStrIs && has(l, bare(api.KString)) ||
			s.kind == api.KCase && has(l, s.parts[0])
		if !gone {
			left = append(left, s)
		}
	}
	switch len(left) {
	case 0:
		return bare(api.KNever)
	case 1:
		return left[0]
	}
	return shape{kind: api.KUnion, parts: left}
}

// with is a shape with other parts.
func (s shape) with(f func(shape) shape) shape {
	var parts []shape
	for _, part := range s.parts {
		parts = append(parts, f(part))
	}
	if s.kind == api.KUnion {
		return union(parts...)
	}
	s.parts = parts
	return s
}

// subst is P8.4, word by word.
func (s shape) subst(vars []int, types []shape) shape {
	if s.kind == api.KVar {
		if i := slices.Index(vars, s.num); i >= 0 {
			return types[i]
		}
	}
	return s.with(func(part shape) shape { return part.subst(vars, types) })
}

// widen is P8.5, word by word.
func (s shape) widen() shape {
	switch s.kind {
	case api.KNumIs:
		return bare(api.KNumber)
	case api.KStrIs:
		return bare(api.KString)
	case api.KTrue, api.KFalse:
		return union(bare(api.KFalse), bare(api.KTrue))
	case api.KCase:
		return s.parts[0]
	case api.KUnion, api.KArray, api.KObject:
		return s.with(shape.widen)
	}
	return s
}
