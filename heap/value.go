package heap

import (
	"strings"
	"unicode/utf8"

	"shuck/api"
	"shuck/value"
)

// What is thrown.
const (
	noMembers = "TypeError: no members"
	noIn      = "TypeError: in"
	noIndex   = "TypeError: index"
)

// settled is a value as chapters 14 and 15 count it, with what its kind has alone; so a VRef then is one of a thing.
func (h *Heap) settled(v api.Value) api.Value {
	switch v.Kind {
	case api.VNull:
		return api.Value{Kind: api.VNull}
	case api.VBool:
		return boolean(value.Truth(v))
	case api.VNumber:
		return number(min(max(v.Num, -api.MaxNumber), api.MaxNumber))
	case api.VString:
		return words(v.Text)
	case api.VRef:
		if _, ok := h.thing(v.Num); ok {
			return api.Value{Kind: api.VRef, Num: v.Num}
		}
	}
	return api.Value{}
}

func (h *Heap) typeof(v api.Value) string {
	switch v.Kind {
	case api.VNull:
		return anObject
	case api.VBool:
		return "boolean"
	case api.VNumber:
		return "number"
	case api.VString:
		return "string"
	}
	if x, ok := h.thingOf(v); ok {
		return x.typeof()
	}
	return "undefined"
}

func boolean(is bool) api.Value {
	v := api.Value{Kind: api.VBool}
	if is {
		v.Num = 1
	}
	return v
}

func number(n int) api.Value { return api.Value{Kind: api.VNumber, Num: n} }

func words(s string) api.Value { return api.Value{Kind: api.VString, Text: s} }

// copied is a value whose text is new memory.
func copied(v api.Value) api.Value {
	v.Text = strings.Clone(v.Text)
	return v
}

// told is the answer of a call that throws nothing.
func told(v api.Value) (api.Value, string, int) { return copied(v), "", api.FaultNone }

// threw is the answer of a call that throws: the text, and nothing beside it.
func threw[T any](text string) (T, string, int) {
	var nothing T
	return nothing, strings.Clone(text), api.FaultThrow
}

// runesOf is how many runes a text has. Like Go's own range, it tells those of chapter 1 (P1.6), and needs no copy of the text.
func runesOf(s string) api.Value { return number(utf8.RuneCountInString(s)) }

// runeAt is a text's rune of a number, as a text; undefined, if there is none.
func runeAt(s string, n int) api.Value {
	if n >= len(s) {
		return api.Value{} // a text has no more runes than bytes
	}
	at := 0
	for _, r := range s {
		if at == n {
			return words(string(r))
		}
		at++
	}
	return api.Value{}
}
