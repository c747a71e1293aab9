package narrow

import "shuck/api"

// inPlaceOf is what stands for a part of which a test says either, where it is yes.
func (q question) inPlaceOf(p part) (int, api.Errno) {
	switch {
	case q.Kind == api.TestKind && p.Kind == api.KUnknown:
		return q.ofWord(p)
	case q.Kind == api.TestIs && p.narrowsTo(q.value):
		return q.Type, api.OK
	}
	return p.id, api.OK
}

// ofWord is the type of which typeof says just the test's word; or else the part itself. It is found, not named by a number: an arena that began as a zero one has other numbers.
func (q question) ofWord(p part) (int, api.Errno) {
	switch q.Text {
	case "number":
		return q.join(api.KNumber)
	case "string":
		return q.join(api.KString)
	case "boolean":
		return q.join(api.KFalse, api.KTrue)
	case "undefined":
		return q.join(api.KUndefined)
	}
	return p.id, api.OK
}

// join is the union of kinds that have nothing.
func (q question) join(kinds ...int) (int, api.Errno) {
	ids := make([]int, len(kinds))
	for i, kind := range kinds {
		id, e := q.arena.Find(api.Type{Kind: kind})
		if e != api.OK {
			return 0, e
		}
		ids[i] = id
	}
	return q.arena.Union(ids)
}

// narrowsTo tells whether a type of one value is all that is left of a part that may be it.
func (p part) narrowsTo(value part) bool {
	switch p.Kind {
	case api.KUnknown:
		return true
	case api.KNumber:
		return value.Kind == api.KNumIs
	case api.KString:
		return value.Kind == api.KStrIs
	case api.KEnum:
		return value.Kind == api.KCase && value.Parts[0] == p.id
	}
	return false
}
