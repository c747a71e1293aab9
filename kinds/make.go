package kinds

import (
	"cmp"
	"iter"
	"slices"

	"shuck/api"
)

// tooLarge stands, while types are made, for each that would be above MaxSize: it is none that is there, but may still go in a union with any or unknown.
const tooLarge = -1

// laid is the number of a type that may be; it is laid, if it is not there. Its Parts may be too large.
func (a *Arena) laid(t api.Type) int {
	size := a.sizeOver(t.Parts)
	if size > api.MaxSize {
		return tooLarge
	}
	words := a.worded(t)
	if id, ok := a.numbers[words]; ok {
		return id
	}
	if a.numbers == nil {
		a.numbers = map[string]int{}
	}
	id := len(a.types)
	a.types = append(a.types, kept{copied(t), words, size})
	a.numbers[words] = id
	return id
}

// sizeOver is the size of a type that has these Parts.
func (a *Arena) sizeOver(parts []int) int {
	size := 1
	for _, part := range parts {
		if part == tooLarge {
			return api.MaxSize + 1
		}
		size += a.types[part].size
	}
	return size
}

// joined is the type that is one of several.
func (a *Arena) joined(ids []int) int {
	if top, ok := a.top(ids); ok {
		return top
	}
	parts := a.left(ids)
	switch {
	case len(parts) == 0:
		return a.laid(api.Type{Kind: api.KNever})
	case len(parts) == 1:
		return parts[0]
	case a.sizeOver(parts) > api.MaxSize:
		return tooLarge // ahead of the texts: there may be many
	}
	sortBy(parts, func(id int) string { return a.closed(id, api.KFunc) })
	return a.laid(api.Type{Kind: api.KUnion, Parts: parts})
}

// top is the any among types, or else the unknown.
func (a *Arena) top(ids []int) (int, bool) {
	top, ok := 0, false
parts:
	for part := range a.apart(ids) {
		switch a.kind(part) {
		case api.KAny:
			top, ok = part, true
			break parts
		case api.KUnknown:
			top, ok = part, true
		}
	}
	return top, ok
}

// left is what a union has of types of which none is any or unknown.
func (a *Arena) left(ids []int) []int {
	parts := slices.Collect(a.apart(ids))
	there := map[int]struct{}{}
	for _, part := range parts {
		there[part] = struct{}{}
	}
	return slices.DeleteFunc(parts, func(part int) bool {
		if a.kind(part) == api.KNever {
			return true
		}
		wider, ok := a.wider(part)
		if !ok {
			return false
		}
		// It is asked for by its text, not laid: an arena that began as a zero one may not have it.
		id, ok := a.numbers[a.worded(wider)]
		if !ok {
			return false
		}
		_, ok = there[id]
		return ok
	})
}

// apart goes through types, each once, with a union's Parts in its place.
func (a *Arena) apart(ids []int) iter.Seq[int] {
	return func(yield func(int) bool) {
		a.eachApart(ids, map[int]struct{}{}, yield)
	}
}

// eachApart tells whether there is still somebody to hand on to.
func (a *Arena) eachApart(ids []int, seen map[int]struct{}, yield func(int) bool) bool {
	for _, id := range ids {
		if _, ok := seen[id]; ok {
			continue
		}
		seen[id] = struct{}{}
		on := false
		if a.kind(id) == api.KUnion {
			on = a.eachApart(a.types[id].Parts, seen, yield)
		} else {
			on = yield(id)
		}
		if !on {
			return false
		}
	}
	return true
}

// kind is a type's kind; none of what is too large.
func (a *Arena) kind(id int) int {
	if id == tooLarge {
		return 0
	}
	return a.types[id].Kind
}

// wider is the type without the value that a literal or a case fixes.
func (a *Arena) wider(id int) (api.Type, bool) {
	switch a.kind(id) {
	case api.KNumIs:
		return api.Type{Kind: api.KNumber}, true
	case api.KStrIs:
		return api.Type{Kind: api.KString}, true
	case api.KCase:
		return a.types[a.types[id].Parts[0]].Type, true
	}
	return api.Type{}, false
}

// change says what comes in a type's place; or not, where its Parts are to be asked.
type change func(id int) (int, bool)

// remade is a type with what a change says in the place of it, or of its Parts.
func (a *Arena) remade(id int, c change) int {
	if to, ok := c(id); ok {
		return to
	}
	t := a.types[id].Type
	parts := make([]int, len(t.Parts))
	for i, part := range t.Parts {
		parts[i] = a.remade(part, c)
	}
	switch {
	case slices.Equal(parts, t.Parts):
		return id
	case t.Kind == api.KUnion:
		return a.joined(parts)
	}
	t.Parts = parts
	return a.laid(t)
}

// replacing is the change of parameters to types, as many of both.
func (a *Arena) replacing(vars, types []int) change {
	to := map[int]int{}
	for i, v := range vars {
		if _, ok := to[v]; !ok {
			to[v] = types[i]
		}
	}
	return func(id int) (int, bool) {
		if a.kind(id) != api.KVar {
			return 0, false
		}
		replaced, ok := to[a.types[id].Num]
		return replaced, ok
	}
}

// widened is the change of values that literals fix.
func (a *Arena) widened(id int) (int, bool) {
	if wider, ok := a.wider(id); ok {
		return a.laid(wider), true
	}
	switch a.kind(id) {
	case api.KTrue, api.KFalse:
		return a.joined([]int{a.laid(api.Type{Kind: api.KFalse}), a.laid(api.Type{Kind: api.KTrue})}), true
	case api.KUnion, api.KArray, api.KObject:
		return 0, false
	}
	return id, true
}

// sortBy puts a list in the order of its elements' keys; those with one key stay as they are.
func sortBy[T any, K cmp.Ordered](l []T, key func(T) K) {
	type keyed struct {
		key K
		of  T
	}
	rows := make([]keyed, len(l))
	for i, x := range l {
		rows[i] = keyed{key(x), x}
	}
	slices.SortStableFunc(rows, func(x, y keyed) int { return cmp.Compare(x.key, y.key) })
	for i, row := range rows {
		l[i] = row.of
	}
}
