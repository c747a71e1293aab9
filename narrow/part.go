package narrow

import (
	"iter"

	"shuck/api"
	"shuck/kinds"
)

// part is a part of a type, or a type that is looked at as one.
type part struct {
	api.Type
	id int
}

// partsOf goes through the parts of a type that is there.
func partsOf(a *kinds.Arena, id int) iter.Seq[part] {
	whole := partAt(a, id)
	return func(yield func(part) bool) {
		if whole.Kind != api.KUnion {
			yield(whole)
			return
		}
		for _, id := range whole.Parts {
			if !yield(partAt(a, id)) {
				return
			}
		}
	}
}

// partAt is a type by its number; it has no kind, if there is none.
func partAt(a *kinds.Arena, id int) part {
	t, _ := a.At(id)
	return part{t, id}
}

// kindOf is the kind of a type; none, if there is no such type.
func kindOf(a *kinds.Arena, id int) int { return partAt(a, id).Kind }

// has tells whether there is a type of a number.
func has(a *kinds.Arena, id int) bool { return id >= 0 && id < a.Len() }

// typeofSays is what typeof says of a part's values; empty, where nothing is said.
func (p part) typeofSays() string {
	switch p.Kind {
	case api.KNumber, api.KNumIs:
		return "number"
	case api.KString, api.KStrIs:
		return "string"
	case api.KTrue, api.KFalse:
		return "boolean"
	case api.KUndefined, api.KVoid:
		return "undefined"
	case api.KFunc, api.KClass:
		return "function"
	case api.KNull, api.KArray, api.KObject, api.KCases, api.KSpace, api.KRef:
		return "object"
	}
	return ""
}

// isOneValue tells whether a part is a type of one value.
func (p part) isOneValue() bool {
	switch p.Kind {
	case api.KNumIs, api.KStrIs, api.KTrue, api.KFalse, api.KUndefined, api.KNull, api.KCase:
		return true
	}
	return false
}

// isLiteral tells whether a part is a number's or a text's own type: an enum's member may have that value.
func (p part) isLiteral() bool { return p.Kind == api.KNumIs || p.Kind == api.KStrIs }
