package heap

import (
	"iter"
	"strings"

	"shuck/api"
)

// length is the member that arrays and texts have.
const length = "length"

// What typeof says of things.
const (
	anObject  = "object"
	aFunction = "function"
)

// thing is an object, an array, a function or a class.
type thing interface {
	kind() int
	typeof() string
	own() *object                      // where its members are laid; nil: it may have none
	find(key string) (api.Value, bool) // its member, or that of the nearest thing behind it that has one
	show(s *shower, deep int)          // deep: within how many others it stands
}

// object is members, and what is behind it: find alone tells of that.
type object struct {
	*object // nil: there is none
	members map[string]api.Value
	keys    []string // in the order in which they were first set
}

// function is what has members like an object, but is shown as a word.
type function struct{ object }

// class is a function that may stand behind others.
type class struct{ function }

// array is values by their numbers.
type array struct{ values []api.Value }

// made is a new thing; of a kind that is none an object.
func made(kind int, behind *object) thing {
	o := object{object: behind}
	switch kind {
	case api.CArray:
		return &array{}
	case api.CFunction:
		return &function{o}
	case api.CClass:
		return &class{function{o}}
	}
	return &o
}

func (*object) kind() int   { return api.CObject }
func (*array) kind() int    { return api.CArray }
func (*function) kind() int { return api.CFunction }
func (*class) kind() int    { return api.CClass }

func (*object) typeof() string   { return anObject }
func (*array) typeof() string    { return anObject }
func (*function) typeof() string { return aFunction }

func (o *object) own() *object { return o }
func (*array) own() *object    { return nil }

// find is a loop: as many things may stand behind one another as there are cells.
func (o *object) find(key string) (api.Value, bool) {
	for ; o != nil; o = o.object {
		if v, ok := o.members[key]; ok {
			return v, true
		}
	}
	return api.Value{}, false
}

func (l *array) find(key string) (api.Value, bool) {
	if key != length {
		return api.Value{}, false
	}
	return number(len(l.values)), true
}

// has tells whether it has a member itself.
func (o *object) has(key string) bool {
	_, ok := o.members[key]
	return ok
}

// set sets a member to a value that is the heap's own. The key is made its own each time: a map keeps that with which it was last set.
func (o *object) set(key string, to api.Value) {
	key = strings.Clone(key)
	if o.members == nil {
		o.members = map[string]api.Value{}
	}
	if !o.has(key) {
		o.keys = append(o.keys, key)
	}
	o.members[key] = to
}

// at is the value of a number; undefined, if there is none.
func (l *array) at(n int) api.Value {
	if n < 0 || n >= len(l.values) {
		return api.Value{}
	}
	return l.values[n]
}

// each goes through what Show tells of an object: what stands ahead of each value, and the value.
func (o *object) each() iter.Seq2[string, api.Value] {
	return func(yield func(string, api.Value) bool) {
		for _, key := range o.keys {
			if !yield(key+": ", o.members[key]) {
				return
			}
		}
	}
}

// each goes through what Show tells of an array: nothing stands ahead of its values.
func (l *array) each() iter.Seq2[string, api.Value] {
	return func(yield func(string, api.Value) bool) {
		for _, v := range l.values {
			if !yield("", v) {
				return
			}
		}
	}
}
