package kinds

import (
	"slices"
	"strings"

	"shuck/api"
)

// definition is what an interface or a class has, by its parameters.
type definition struct {
	vars   []int
	pieces []api.Piece // rising by Name, each once
}

// Define says what an interface or a class has, by its parameters.
func (a *Arena) Define(node int, vars []int, pieces []api.Piece) api.Errno {
	if a == nil || node < 0 {
		return api.ErrArg
	}
	for _, p := range pieces {
		if !isName(p.Name) {
			return api.ErrArg
		}
	}
	for _, p := range pieces {
		if !a.has(p.Type) {
			return api.ErrNone
		}
	}
	if a.definitions == nil {
		a.definitions = map[int]definition{}
	}
	a.definitions[node] = definition{slices.Clone(vars), arranged(pieces)}
	return api.OK
}

// arranged is pieces rising by Name, of each Name the first one.
func arranged(pieces []api.Piece) []api.Piece {
	l := slices.Clone(pieces)
	for i := range l {
		l[i].Name = strings.Clone(l[i].Name)
	}
	sortBy(l, func(p api.Piece) string { return p.Name })
	return slices.CompactFunc(l, func(x, y api.Piece) bool { return x.Name == y.Name })
}

// Pieces is what a type has as members.
func (a *Arena) Pieces(id int) ([]api.Piece, api.Errno) {
	if a == nil {
		return nil, api.ErrArg
	}
	if !a.has(id) {
		return nil, api.ErrNone
	}
	switch t := a.types[id].Type; t.Kind {
	case api.KObject:
		return members(t), api.OK
	case api.KRef:
		return a.defined(t)
	}
	return nil, api.ErrNone
}

// members is the pieces of an object.
func members(t api.Type) []api.Piece {
	l := make([]api.Piece, len(t.Names))
	for i, name := range t.Names {
		l[i] = api.Piece{Name: strings.Clone(name), Type: t.Parts[i], Mark: t.Marks[i]}
	}
	return l
}

// defined is the pieces of what a reference stands for, with its Parts in the place of the parameters.
func (a *Arena) defined(t api.Type) ([]api.Piece, api.Errno) {
	d, ok := a.definitions[t.Num]
	if !ok || len(d.vars) != len(t.Parts) {
		return nil, api.ErrNone
	}
	from := a.Len()
	toParts := a.replacing(d.vars, t.Parts)
	made := make([]int, len(d.pieces))
	for i, p := range d.pieces {
		made[i] = a.remade(p.Type, toParts)
	}
	numbers, e := a.settled(from, made)
	if e != api.OK {
		return nil, e
	}
	l := make([]api.Piece, len(d.pieces))
	for i, p := range d.pieces {
		l[i] = api.Piece{Name: strings.Clone(p.Name), Type: numbers[i], Mark: p.Mark}
	}
	return l, api.OK
}
