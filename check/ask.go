package check

import (
	"cmp"
	"slices"

	"shuck/api"
	"shuck/narrow"
	"shuck/relate"
)

// The types that every arena has from the beginning.
const (
	anyType = iota
	unknownType
	neverType
	voidType
	undefinedType
	nullType
	numberType
	stringType
	trueType
	falseType
)

// answers are those to questions that were asked: the same ones come again and again, and what classes have does not change any more then.
type answers struct {
	taken  map[pair]answer
	kept   map[keeping]int
	pieces map[int]had
}

// pair is two types, x for y.
type pair struct{ x, y int }

// answer is that to a question for yes or no.
type answer struct{ yes bool }

// keeping is a question of what a test leaves of a type.
type keeping struct {
	id   int
	test api.Test
	yes  bool
}

// had is the members that a type has, if it may have some.
type had struct {
	list []api.Piece
	some bool
}

func newAnswers() answers {
	return answers{map[pair]answer{}, map[keeping]int{}, map[int]had{}}
}

// made is a type that an arena was asked for.
func made(id int, e api.Errno) int {
	if e != api.OK {
		panic(tooComplex{})
	}
	return id
}

func (c *checker) find(t api.Type) int { return made(c.arena.Find(t)) }

func (c *checker) union(ids ...int) int { return made(c.arena.Union(ids)) }

func (c *checker) widen(id int) int { return made(c.arena.Widen(id)) }

func (c *checker) subst(id int, vars, types []int) int { return made(c.arena.Subst(id, vars, types)) }

// at is the type of a number that is there.
func (c *checker) at(id int) api.Type {
	t, _ := c.arena.At(id)
	return t
}

// parts is the parts of a type: of a union those that it has, of any other one itself.
func (c *checker) parts(id int) []int {
	if t := c.at(id); t.Kind == api.KUnion {
		return t.Parts
	}
	return []int{id}
}

func (c *checker) boolean() int { return c.union(falseType, trueType) }

func (c *checker) arrayOf(part int) int {
	return c.find(api.Type{Kind: api.KArray, Parts: []int{part}})
}

// objectOf is the type of objects with pieces, each name once.
func (c *checker) objectOf(l []api.Piece) int {
	slices.SortFunc(l, func(x, y api.Piece) int { return cmp.Compare(x.Name, y.Name) })
	t := api.Type{Kind: api.KObject}
	for _, p := range l {
		t.Names = append(t.Names, p.Name)
		t.Parts = append(t.Parts, p.Type)
		t.Marks = append(t.Marks, p.Mark)
	}
	return c.find(t)
}

// takes tells whether x may stand where y is asked for.
func (c *checker) takes(y, x int) bool {
	p := pair{x, y}
	if a, ok := c.taken[p]; ok {
		return a.yes
	}
	yes, e := relate.Assignable(c.arena, x, y)
	made(0, e)
	c.taken[p] = answer{yes}
	return yes
}

// keep is what a test leaves of a type, where it says yes, or no.
func (c *checker) keep(id int, test api.Test, yes bool) int {
	k := keeping{id, test, yes}
	if left, ok := c.kept[k]; ok {
		return left
	}
	left := made(narrow.Keep(c.arena, id, test, yes))
	c.kept[k] = left
	return left
}

func (c *checker) assign(declared, value int) int {
	return made(narrow.Assigned(c.arena, declared, value))
}

// piecesOf is what a type has as members; not, if it has none.
func (c *checker) piecesOf(id int) ([]api.Piece, bool) {
	m, ok := c.pieces[id]
	if !ok {
		l, e := c.arena.Pieces(id)
		if e != api.ErrNone {
			made(0, e)
		}
		m = had{l, e == api.OK}
		c.pieces[id] = m
	}
	return m.list, m.some
}

// mayHavePieces tells whether a type is of a kind that has members.
func (c *checker) mayHavePieces(id int) bool {
	kind := c.at(id).Kind
	return kind == api.KObject || kind == api.KRef
}

// named is the piece of a name.
func named(l []api.Piece, name string) (api.Piece, bool) {
	at, ok := slices.BinarySearchFunc(l, name, func(p api.Piece, name string) int { return cmp.Compare(p.Name, name) })
	if !ok {
		return api.Piece{}, false
	}
	return l[at], true
}
