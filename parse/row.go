package parse

import (
	"slices"

	"shuck/api"
)

// maybe reads one behind a sign or a word; None, if that does not stand there.
func (r *reader) maybe(ahead string, one func() int) int {
	if !r.take(ahead) {
		return r.none()
	}
	return one()
}

// until reads one and the sign behind it; None, if the sign comes at once.
func (r *reader) until(end string, one func() int) int {
	if r.take(end) {
		return r.none()
	}
	x := one()
	r.want(end)
	return x
}

// several reads one, and one more behind each `,`.
func (r *reader) several(one func() int) []int {
	kids := []int{one()}
	for r.take(",") {
		kids = append(kids, one())
	}
	return kids
}

// enclosed reads a bracket, several or none, and the other bracket.
func (r *reader) enclosed(open, end string, one func() int) []int {
	r.want(open)
	if r.take(end) {
		return nil
	}
	kids := r.several(one)
	r.want(end)
	return kids
}

// braced reads `{`, any number with one of the signs between each two, one at their end or not, and `}`.
func (r *reader) braced(one func() int, between ...string) []int {
	r.want("{")
	var kids []int
	for !r.take("}") {
		kids = append(kids, one())
		if slices.Contains(between, mark(r.token)) {
			r.next()
			continue
		}
		r.want("}")
		break
	}
	return kids
}

// filled reads `{`, any number with nothing between, and `}`.
func (r *reader) filled(one func() int) []int {
	r.want("{")
	var kids []int
	for !r.take("}") {
		kids = append(kids, one())
	}
	return kids
}

// typeParams reads the names of types that a thing may begin with.
func (r *reader) typeParams() int {
	if !r.take("<") {
		return r.list()
	}
	names := r.several(r.typeParam)
	r.wantAngle()
	return r.list(names...)
}

func (r *reader) typeParam() int {
	at := r.token.At
	return r.put(api.Node{Kind: api.TypeParam, Text: r.name(), At: at})
}

func (r *reader) params(one func() int) int {
	return r.list(r.enclosed("(", ")", one)...)
}

// param reads a Param that has no mark but `?`.
func (r *reader) param() int { return r.marked(r.token.At, 0) }

// memberParam reads a constructor's Param.
func (r *reader) memberParam() int {
	at, marks := r.token.At, 0
	if r.take("public") {
		marks += api.Public
	}
	if r.take("readonly") {
		marks += api.Readonly
	}
	return r.marked(at, marks)
}

// marked reads a Param from its name on.
func (r *reader) marked(at, marks int) int {
	name := r.name()
	if r.take("?") {
		marks += api.Optional
	}
	typ := r.maybe(":", r.anyType)
	return r.put(api.Node{Kind: api.Param, Text: name, Num: marks, At: at}, typ)
}
