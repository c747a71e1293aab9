package check

import (
	"strings"

	"shuck/api"
)

// itself is a type whose name always means it.
func (c *checker) itself(name string) (int, bool) {
	switch name {
	case "number":
		return numberType, true
	case "string":
		return stringType, true
	case "any":
		return anyType, true
	case "unknown":
		return unknownType, true
	case "never":
		return neverType, true
	case "void":
		return voidType, true
	case "null":
		return nullType, true
	case "undefined":
		return undefinedType, true
	case "true":
		return trueType, true
	case "false":
		return falseType, true
	case "boolean":
		return c.boolean(), true
	}
	return 0, false
}

// declarationOf is the declaration that a TypeName stands for; nowhere, if there is none.
func (c *checker) declarationOf(n int) int {
	names := strings.Split(c.nodes[n].Text, ".")
	last := len(names) - 1
	if last == 0 {
		if _, ok := c.itself(names[0]); ok {
			return nowhere
		}
		return c.regions[n].types.find(names[0])
	}
	space := c.regions[n].values.find(names[0])
	for _, name := range names[1:last] {
		space = c.exportedValue(space, name)
	}
	switch {
	case space == nowhere:
		return nowhere
	case c.kind(space) == api.Namespace:
		return numbered(c.exports(space).types, names[last])
	case c.kind(space) == api.Enum:
		return numbered(c.cases(space), names[last])
	}
	return nowhere
}

// exportedValue is the value that a Namespace exports by a name; nowhere, if it is no Namespace.
func (c *checker) exportedValue(space int, name string) int {
	if space == nowhere || c.kind(space) != api.Namespace {
		return nowhere
	}
	return numbered(c.exports(space).values, name)
}

// numbered is the number that a name has; nowhere, if it has none.
func numbered(names map[string]int, name string) int {
	if n, ok := names[name]; ok {
		return n
	}
	return nowhere
}

// exported is what a Namespace exports, by names.
type exported struct{ values, types map[string]int }

func (c *checker) exportsOf(space int) exported {
	x := exported{map[string]int{}, map[string]int{}}
	for _, kid := range c.nodes[space].Kids {
		if c.kind(kid) != api.Export {
			continue
		}
		n := c.kid(kid, 0)
		name := c.nodes[n].Text
		if isValue(c.kind(n)) {
			x.values[name] = n
		}
		// One that another has laid its name ahead of does not count.
		if isNamedType(c.kind(n)) && !c.offences[n] {
			x.types[name] = n
		}
	}
	return x
}

func isValue(kind int) bool {
	switch kind {
	case api.Var, api.Func, api.Class, api.Enum, api.Namespace:
		return true
	}
	return false
}

func isNamedType(kind int) bool {
	switch kind {
	case api.Class, api.Interface, api.Alias, api.Enum:
		return true
	}
	return false
}

// casesOf is the members of an Enum, by their names; of two the first one.
func (c *checker) casesOf(enum int) map[string]int {
	names := map[string]int{}
	for _, n := range c.nodes[enum].Kids {
		name := c.nodes[n].Text
		if _, twice := names[name]; !twice {
			names[name] = n
		}
	}
	return names
}
