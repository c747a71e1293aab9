package narrow_test

import (
	"slices"
	"strings"

	"shuck/api"
	"shuck/relate"
)

// The chapter, word by word, without an eye to time.

// kindWords is what the chapter calls the kinds.
const kindWords = "any unknown never void undefined null number string true false KNumIs KStrIs KArray KObject KFunc KUnion KRef KVar KEnum KCase KClass KCases KSpace"

func (w *world) kindWord(id int) string {
	return strings.Fields(kindWords)[w.at(id).Kind-1]
}

func isOneOf(word, words string) bool { return slices.Contains(strings.Fields(words), word) }

func (w *world) slowParts(id int) []int {
	if w.kindWord(id) == "KUnion" {
		return w.at(id).Parts
	}
	return []int{id}
}

// slowTypeof is what typeof says of a part's values, or that nothing is said.
func (w *world) slowTypeof(id int) string {
	for _, line := range []string{
		"number: number KNumIs",
		"string: string KStrIs",
		"boolean: true false",
		"undefined: undefined void",
		"function: KFunc KClass",
		"object: null KArray KObject KCases KSpace KRef",
		"(nothing): any unknown never KVar KEnum KCase",
	} {
		if says, of, _ := strings.Cut(line, ": "); isOneOf(w.kindWord(id), of) {
			return says
		}
	}
	w.Fatalf("typeof of %s?", w.a.Text(id))
	return ""
}

func (w *world) slowOneValue(id int) bool {
	return id >= 0 && id < w.a.Len() && isOneOf(w.kindWord(id), "KNumIs KStrIs true false undefined null KCase")
}

// slowSays is "yes", "no" or "either"; or that Pieces can't be made.
func (w *world) slowSays(id int, t api.Test) (string, api.Errno) {
	switch t.Kind {
	case api.TestKind:
		switch w.slowTypeof(id) {
		case "(nothing)":
			return "either", api.OK
		case t.Text:
			return "yes", api.OK
		}
		return "no", api.OK
	case api.TestIs:
		return w.slowIs(id, t.Type), api.OK
	case api.TestTruth:
		return w.slowTruth(id), api.OK
	}
	return w.slowMember(id, t)
}

func (w *world) slowIs(id, value int) string {
	kind, valueKind := w.kindWord(id), w.kindWord(value)
	isCaseOfLiteral := kind == "KCase" && isOneOf(valueKind, "KNumIs KStrIs") || valueKind == "KCase" && isOneOf(kind, "KNumIs KStrIs")
	says, valueSays := w.slowTypeof(id), w.slowTypeof(value)
	switch {
	case w.a.Text(id) == w.a.Text(value):
		return "yes"
	case w.slowOneValue(id) && w.slowOneValue(value) && !isCaseOfLiteral:
		return "no"
	case says != "(nothing)" && valueSays != "(nothing)" && says != valueSays:
		return "no"
	case kind == "void" && valueKind != "undefined":
		return "no"
	}
	return "either"
}

func (w *world) slowTruth(id int) string {
	kind, text := w.kindWord(id), w.a.Text(id)
	switch {
	case isOneOf(kind, "undefined void null false") || text == "0" || text == `""`:
		return "no"
	case isOneOf(kind, "true KNumIs KStrIs KArray KObject KRef KFunc KClass KCases KSpace"):
		return "yes"
	}
	return "either"
}

// slowMember is what TestHas and TestField say.
func (w *world) slowMember(id int, t api.Test) (string, api.Errno) {
	pieces, e := w.a.Pieces(id)
	switch e {
	case api.ErrNone:
		return "either", api.OK
	case api.ErrComplex:
		return "", api.ErrComplex
	}
	for _, piece := range pieces {
		switch {
		case piece.Name != t.Text:
		case piece.Mark:
			return "either", api.OK
		case t.Kind == api.TestHas:
			return "yes", api.OK
		default:
			return w.slowField(piece.Type, t.Type), api.OK
		}
	}
	if w.kindWord(id) == "KRef" {
		return "either", api.OK
	}
	return "no", api.OK
}

func (w *world) slowField(id, value int) string {
	parts := w.slowParts(id)
	if len(parts) == 1 {
		return w.slowIs(parts[0], value)
	}
	if slices.ContainsFunc(parts, func(p int) bool { return w.slowIs(p, value) != "no" }) {
		return "either"
	}
	return "no"
}

func (w *world) slowKeep(id int, t api.Test, yes bool) (int, api.Errno) {
	switch {
	case t.Kind < 1 || t.Kind > 5, (t.Kind == api.TestIs || t.Kind == api.TestField) && !w.slowOneValue(t.Type):
		return 0, api.ErrArg
	case id < 0 || id >= w.a.Len():
		return 0, api.ErrNone
	}
	var left []int
	for _, p := range w.slowParts(id) {
		says, e := w.slowSays(p, t)
		switch {
		case e != api.OK:
			return 0, e
		case says == "either" && yes:
			left = append(left, w.slowPlace(p, t))
		case says == "either", says == "yes" && yes, says == "no" && !yes:
			left = append(left, p)
		}
	}
	return w.a.Union(left)
}

// slowPlace is what stands in the place of a part of which a test says either.
func (w *world) slowPlace(id int, t api.Test) int {
	kind := w.kindWord(id)
	switch {
	case t.Kind == api.TestKind && kind == "unknown" && t.Text == "boolean":
		return w.id("false | true")
	case t.Kind == api.TestKind && kind == "unknown" && isOneOf(t.Text, "number string undefined"):
		return w.id(t.Text)
	case t.Kind != api.TestIs:
		return id
	}
	isItsCase := w.kindWord(t.Type) == "KCase" && w.a.Text(w.at(t.Type).Parts[0]) == w.a.Text(id)
	switch kind + " " + w.kindWord(t.Type) {
	case "number KNumIs", "string KStrIs":
		return t.Type
	}
	if kind == "unknown" || kind == "KEnum" && isItsCase {
		return t.Type
	}
	return id
}

func (w *world) slowAssigned(declared, value int) (int, api.Errno) {
	if min(declared, value) < 0 || max(declared, value) >= w.a.Len() {
		return 0, api.ErrNone
	}
	if w.kindWord(declared) != "KUnion" || w.kindWord(value) == "any" {
		return declared, api.OK
	}
	var left []int
	err := api.OK
	for _, p := range w.slowParts(declared) {
		for _, v := range w.slowParts(value) {
			is, e := relate.Assignable(w.a, v, p)
			if e != api.OK {
				err = e
			}
			if is {
				left = append(left, p)
			}
		}
	}
	switch {
	case err != api.OK:
		return 0, err
	case len(left) == 0:
		return declared, api.OK
	}
	return w.a.Union(left)
}
