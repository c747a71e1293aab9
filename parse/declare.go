package parse

import "shuck/api"

// declares tells whether a declaration begins with the word that stands there (`let` and `const` aside).
func (r *reader) declares() bool {
	switch mark(r.token) {
	case "function", "class", "enum", "namespace", "interface", "type":
		return true
	}
	return false
}

func (r *reader) declaration() int {
	switch mark(r.token) {
	case "function":
		return r.callable(api.Func, r.next().At)
	case "class":
		return r.class()
	case "enum":
		return r.enum()
	case "namespace":
		return r.namespace()
	case "interface":
		return r.face()
	}
	return r.alias()
}

// callable reads a Func or a Method from its name on.
func (r *reader) callable(kind, at int) int {
	name := r.name()
	types := r.typeParams()
	params := r.params(r.param)
	answer := r.maybe(":", r.anyType)
	return r.put(api.Node{Kind: kind, Text: name, At: at}, types, params, answer, r.block())
}

func (r *reader) class() int {
	at := r.next().At
	name := r.name()
	types := r.typeParams()
	base := r.base()
	faces := r.refs("implements")
	parts := r.list(r.filled(r.classPart)...)
	r.oneCtor(parts)
	return r.put(api.Node{Kind: api.Class, Text: name, At: at}, types, base, faces, parts)
}

// oneCtor refuses a list of ClassParts with more than one constructor.
func (r *reader) oneCtor(parts int) {
	count := 0
	for _, part := range r.nodes[parts].Kids {
		if r.nodes[part].Kind == api.Ctor {
			count++
		}
	}
	if count > 1 {
		r.refuse()
	}
}

// base reads what a class extends; None, if it extends nothing.
func (r *reader) base() int {
	at := r.token.At
	if !r.take("extends") {
		return r.none()
	}
	name := r.name()
	return r.put(api.Node{Kind: api.Base, Text: name, At: at}, r.typeArgs())
}

// refs reads a List of TypeRefs behind a word; an empty one, if that does not stand there.
func (r *reader) refs(ahead string) int {
	if !r.take(ahead) {
		return r.list()
	}
	return r.list(r.several(r.typeRef)...)
}

func (r *reader) classPart() int {
	at := r.token.At
	if r.take("constructor") {
		params := r.params(r.memberParam)
		return r.put(api.Node{Kind: api.Ctor, At: at}, params, r.block())
	}
	if ahead := r.behind(1); r.token.Kind == api.TokName && (is(ahead, "<") || is(ahead, "(")) {
		return r.callable(api.Method, at)
	}
	return r.field()
}

func (r *reader) field() int {
	at, num := r.token.At, 0
	if r.take("readonly") {
		num = api.Readonly
	}
	name := r.name()
	typ := r.maybe(":", r.anyType)
	value := r.maybe("=", r.expr)
	r.want(";")
	return r.put(api.Node{Kind: api.Field, Text: name, Num: num, At: at}, typ, value)
}

func (r *reader) enum() int {
	at, num := r.token.At, 0
	if r.take("const") {
		num = api.Const
	}
	r.want("enum")
	name := r.name()
	members := r.braced(r.enumMember, ",")
	return r.put(api.Node{Kind: api.Enum, Text: name, Num: num, At: at}, members...)
}

func (r *reader) enumMember() int {
	at := r.token.At
	name := r.name()
	return r.put(api.Node{Kind: api.EnumMember, Text: name, At: at}, r.maybe("=", r.expr))
}

func (r *reader) namespace() int {
	at := r.next().At
	name := r.name()
	parts := r.filled(r.spacePart)
	return r.put(api.Node{Kind: api.Namespace, Text: name, At: at}, parts...)
}

func (r *reader) spacePart() int {
	at := r.token.At
	if !r.take("export") {
		return r.stmt()
	}
	return r.put(api.Node{Kind: api.Export, At: at}, r.exported())
}

// exported reads what may stand behind `export`: a `const` there is a Var's, as an Enum that is Const is nothing at run time.
func (r *reader) exported() int {
	if r.is("const") {
		return r.variable(api.Const)
	}
	if !r.declares() {
		r.refuse()
	}
	return r.declaration()
}

func (r *reader) face() int {
	at := r.next().At
	name := r.name()
	types := r.typeParams()
	bases := r.refs("extends")
	return r.put(api.Node{Kind: api.Interface, Text: name, At: at}, types, bases, r.objectType())
}

func (r *reader) alias() int {
	at := r.next().At
	name := r.name()
	types := r.typeParams()
	r.want("=")
	typ := r.anyType()
	r.want(";")
	return r.put(api.Node{Kind: api.Alias, Text: name, At: at}, types, typ)
}
