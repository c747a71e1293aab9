package parse

import (
	"strings"

	"shuck/api"
)

func (r *reader) anyType() int {
	at := r.token.At
	r.take("|")
	parts := []int{r.arrayType()}
	for r.take("|") {
		parts = append(parts, r.arrayType())
	}
	if len(parts) == 1 {
		return parts[0]
	}
	return r.put(api.Node{Kind: api.TypeUnion, At: at}, parts...)
}

func (r *reader) arrayType() int {
	at := r.token.At
	x := r.plainType()
	for r.take("[") {
		r.want("]")
		x = r.put(api.Node{Kind: api.TypeArray, At: at}, x)
	}
	return x
}

func (r *reader) plainType() int {
	at := r.token.At
	switch {
	case r.paramsAhead():
		return r.funcType("=>")
	case r.take("("):
		x := r.anyType()
		r.want(")")
		return x
	case r.is("{"):
		return r.objectType()
	case r.take("-"):
		return r.put(api.Node{Kind: api.TypeNum, Num: -r.number(), At: at})
	case r.token.Kind == api.TokNumber:
		return r.put(api.Node{Kind: api.TypeNum, Num: r.number(), At: at})
	case r.token.Kind == api.TokString:
		return r.put(api.Node{Kind: api.TypeStr, Text: r.next().Text, At: at})
	}
	return r.typeRef()
}

// paramsAhead tells whether a `(` begins Params: `=>` stands behind what closes it.
func (r *reader) paramsAhead() bool {
	if !r.is("(") || r.closes[r.n] == 0 {
		return false
	}
	return is(r.tokens[r.closes[r.n]+1], "=>")
}

// funcType reads Params, a sign, and the type of what is answered.
func (r *reader) funcType(between string) int {
	at := r.token.At
	params := r.params(r.param)
	r.want(between)
	answer := r.anyType()
	return r.put(api.Node{Kind: api.TypeFunc, At: at}, params, answer)
}

func (r *reader) typeRef() int {
	at := r.token.At
	switch mark(r.token) {
	case "null", "undefined", "true", "false":
		text := r.next().Text
		return r.put(api.Node{Kind: api.TypeName, Text: text, At: at}, r.list())
	}
	names := []string{r.name()}
	for r.take(".") {
		names = append(names, r.name())
	}
	args := r.typeArgs()
	return r.put(api.Node{Kind: api.TypeName, Text: strings.Join(names, "."), At: at}, args)
}

// typeArgs reads TypeArgs where a `<` can be nothing else.
func (r *reader) typeArgs() int {
	if !r.is("<") {
		return r.list()
	}
	begin := r.n
	// This stands if a token within is refused.
	r.noCall[begin] = true
	r.next()
	args := r.several(r.anyType)
	r.wantAngle()
	r.noCall[begin] = !r.is("(")
	return r.list(args...)
}

// callTypes reads the TypeArgs that a call has ahead of its `(`; it reads nothing, if there is no call.
func (r *reader) callTypes() (int, bool) {
	if !r.is("(") && !r.is("<") || r.noCall[r.n] {
		return 0, false
	}
	before := *r
	args := 0
	if attempt(func() { args = r.typeArgs() }) && r.is("(") {
		return args, true
	}
	*r = before
	return 0, false
}

func (r *reader) objectType() int {
	at := r.token.At
	pieces := r.braced(r.piece, ";", ",")
	return r.put(api.Node{Kind: api.TypeObject, At: at}, pieces...)
}

func (r *reader) piece() int {
	at := r.token.At
	name := r.name()
	if r.is("(") {
		return r.put(api.Node{Kind: api.TypeProp, Text: name, At: at}, r.funcType(":"))
	}
	marks := 0
	if r.take("?") {
		marks = api.Optional
	}
	r.want(":")
	typ := r.anyType()
	return r.put(api.Node{Kind: api.TypeProp, Text: name, Num: marks, At: at}, typ)
}
