package heap_test

import (
	"strings"

	"shuck/api"
	"shuck/text"
	"shuck/value"
)

// A slow reading of chapter 15, word by word.

// slowThing is what was laid: its kind, what is behind it (-1: nothing), and what was set, in its order.
type slowThing struct {
	kind, behind int
	keys         []string // of an array none
	values       []api.Value
}

type slowHeap struct {
	room   int
	things []slowThing
}

func (s *slowHeap) used() int {
	n := 0
	for _, x := range s.things {
		n += 1 + len(x.values)
	}
	return n
}

func (s *slowHeap) isFull() bool { return s.used() == s.room }

func (s *slowHeap) there(ref int) bool { return 0 <= ref && ref < len(s.things) }

func (s *slowHeap) kind(ref int) int {
	if !s.there(ref) {
		return 0
	}
	return s.things[ref].kind
}

// long is how many values an array has.
func (s *slowHeap) long(ref int) int {
	if s.kind(ref) != 2 {
		return 0
	}
	return len(s.things[ref].values)
}

// taken is a value as chapters 14 and 15 count it.
func (s *slowHeap) taken(v api.Value) api.Value {
	const end = 9007199254740991
	switch {
	case v.Kind == 1:
		return api.Value{Kind: 1}
	case v.Kind == 2 && v.Num == 0:
		return api.Value{Kind: 2}
	case v.Kind == 2:
		return api.Value{Kind: 2, Num: 1}
	case v.Kind == 3 && v.Num > end:
		return api.Value{Kind: 3, Num: end}
	case v.Kind == 3 && v.Num < -end:
		return api.Value{Kind: 3, Num: -end}
	case v.Kind == 3:
		return api.Value{Kind: 3, Num: v.Num}
	case v.Kind == 4:
		return api.Value{Kind: 4, Text: v.Text}
	case v.Kind == 5 && s.there(v.Num):
		return api.Value{Kind: 5, Num: v.Num}
	}
	return api.Value{}
}

// thing is the number of a value's thing; -1, if it has none.
func (s *slowHeap) thing(v api.Value) int {
	if v = s.taken(v); v.Kind == 5 {
		return v.Num
	}
	return -1
}

func (s *slowHeap) nothing(v api.Value) bool { return s.taken(v).Kind < 2 }

func (s *slowHeap) answer(c call) answer {
	switch c.name {
	case "Make":
		return s.make(c.kind, c.ref)
	case "Kind":
		return count(s.kind(c.ref))
	case "Get":
		return s.get(c.v, c.key)
	case "Set":
		return s.set(c.v, c.key, c.to)
	case "Has":
		return s.has(c.v, c.key)
	case "At":
		return s.at(c.v, c.index)
	case "Put":
		return s.put(c.v, c.index, c.to)
	case "Push":
		return s.push(c.ref, c.v)
	case "Len":
		return count(s.long(c.ref))
	case "Typeof":
		return says(s.typeOf(c.v))
	case "Show":
		return says(s.show(c.v))
	}
	return count(s.used())
}

func (s *slowHeap) make(kind, proto int) answer {
	if s.isFull() {
		return answer{n: -1, fault: 3}
	}
	if kind < 1 || kind > 4 {
		kind = 1
	}
	if k := s.kind(proto); k != 1 && k != 4 || kind == 2 {
		proto = -1
	}
	s.things = append(s.things, slowThing{kind: kind, behind: proto})
	return count(len(s.things) - 1)
}

// found is a thing's member, or that of the nearest thing behind it that has one.
func (s *slowHeap) found(ref int, key string) (api.Value, bool) {
	if s.kind(ref) == 2 {
		return api.Value{Kind: 3, Num: s.long(ref)}, key == "length"
	}
	for ; ref >= 0; ref = s.things[ref].behind {
		for i, k := range s.things[ref].keys {
			if k == key {
				return s.things[ref].values[i], true
			}
		}
	}
	return api.Value{}, false
}

// runes is a text's runes, each as a text.
func runes(s string) []string {
	var l []string
	for _, r := range text.Runes([]byte(s)) {
		l = append(l, string(r))
	}
	return l
}

func (s *slowHeap) get(v api.Value, key string) answer {
	if s.nothing(v) {
		return throws("TypeError: no members")
	}
	if v.Kind == 4 && key == "length" {
		return told(api.Value{Kind: 3, Num: len(runes(v.Text))})
	}
	if n := s.thing(v); n >= 0 {
		if found, ok := s.found(n, key); ok {
			return told(found)
		}
	}
	return told(api.Value{})
}

func (s *slowHeap) set(v api.Value, key string, to api.Value) answer {
	n := s.thing(v)
	if n < 0 || s.kind(n) == 2 {
		return throws("TypeError: no members")
	}
	to = s.taken(to)
	x := &s.things[n]
	for i, k := range x.keys {
		if k == key {
			x.values[i] = to
			return answer{}
		}
	}
	if s.isFull() {
		return answer{fault: 3}
	}
	x.keys = append(x.keys, key)
	x.values = append(x.values, to)
	return answer{}
}

func (s *slowHeap) has(v api.Value, key string) answer {
	n := s.thing(v)
	if n < 0 {
		return throws("TypeError: in")
	}
	_, ok := s.found(n, key)
	return is(ok)
}

func (s *slowHeap) at(v, index api.Value) answer {
	if s.nothing(v) {
		return throws("TypeError: no members")
	}
	if index.Kind == 4 {
		return s.get(v, index.Text)
	}
	if index.Kind != 3 {
		return throws("TypeError: index")
	}
	i := s.taken(index).Num
	var l []api.Value
	if v.Kind == 4 {
		for _, r := range runes(v.Text) {
			l = append(l, api.Value{Kind: 4, Text: r})
		}
	}
	if n := s.thing(v); s.kind(n) == 2 {
		l = s.things[n].values
	}
	if i < 0 || i >= len(l) {
		return answer{}
	}
	return told(l[i])
}

func (s *slowHeap) put(v, index, to api.Value) answer {
	n := s.thing(v)
	if s.kind(n) == 2 && index.Kind == 3 {
		i := s.taken(index).Num
		if i >= 0 && i < s.long(n) {
			s.things[n].values[i] = s.taken(to)
			return answer{}
		}
		if i == s.long(n) {
			return answer{fault: s.push(n, to).fault}
		}
		return throws("TypeError: index")
	}
	if index.Kind == 4 {
		return s.set(v, index.Text, to)
	}
	return throws("TypeError: index")
}

func (s *slowHeap) push(ref int, v api.Value) answer {
	if s.kind(ref) != 2 {
		return answer{n: -1, fault: 1}
	}
	if s.isFull() {
		return answer{n: -1, fault: 3}
	}
	s.things[ref].values = append(s.things[ref].values, s.taken(v))
	return count(s.long(ref))
}

func (s *slowHeap) typeOf(v api.Value) string {
	v = s.taken(v)
	if v.Kind == 5 && s.kind(v.Num) > 2 {
		return "function"
	}
	return []string{"undefined", "object", "boolean", "number", "string", "object"}[v.Kind]
}

func (s *slowHeap) show(v api.Value) string {
	if v.Kind == 4 {
		return v.Text
	}
	all := s.shown(v, 0)
	if len(all) > 65536 {
		return "..."
	}
	return all
}

// shown is a value's text within so many arrays and objects.
func (s *slowHeap) shown(v api.Value, outer int) string {
	v = s.taken(v)
	switch {
	case v.Kind == 4:
		return text.Quote(v.Text)
	case v.Kind != 5:
		return value.Text(v)
	case s.kind(v.Num) == 3:
		return "function"
	case s.kind(v.Num) == 4:
		return "class"
	case outer == 3:
		return "..."
	}
	x := s.things[v.Num]
	var l []string
	for i, v := range x.values {
		one := s.shown(v, outer+1)
		if x.kind == 1 {
			one = x.keys[i] + ": " + one
		}
		l = append(l, one)
	}
	if x.kind == 1 {
		return "{" + strings.Join(l, ", ") + "}"
	}
	return "[" + strings.Join(l, ", ") + "]"
}
