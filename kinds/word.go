package kinds

import (
	"strconv"
	"strings"

	"shuck/api"
	"shuck/text"
)

// worded is the text of a type whose Parts are there, those of a union in their order.
func (a *Arena) worded(t api.Type) string {
	node := strconv.Itoa(t.Num)
	switch t.Kind {
	case api.KNumIs:
		return node
	case api.KStrIs:
		return text.Quote(t.Text)
	case api.KArray:
		return a.closed(t.Parts[0], api.KFunc, api.KUnion) + "[]"
	case api.KObject:
		return "{" + strings.Join(a.memberWords(t), "; ") + "}"
	case api.KFunc:
		last := len(t.Marks)
		return "(" + strings.Join(a.paramWords(t), ", ") + ") => " + a.closed(t.Parts[last])
	case api.KUnion:
		return strings.Join(a.allWords(t.Parts, api.KFunc), " | ")
	case api.KRef:
		return t.Text + "#" + node + a.argumentWords(t)
	case api.KVar:
		return t.Text + "'" + node
	case api.KEnum:
		return t.Text + "@" + node
	case api.KCase:
		return a.closed(t.Parts[0]) + "." + t.Text
	case api.KClass:
		return "class " + t.Text + "#" + node
	case api.KCases:
		return "enum " + t.Text + "#" + node
	case api.KSpace:
		return "namespace " + t.Text + "#" + node
	}
	return bareWord(t.Kind)
}

// bareWord is the text of a kind that has nothing.
func bareWord(kind int) string {
	words := [...]string{
		api.KAny: "any", api.KUnknown: "unknown", api.KNever: "never", api.KVoid: "void",
		api.KUndefined: "undefined", api.KNull: "null", api.KNumber: "number", api.KString: "string",
		api.KTrue: "true", api.KFalse: "false",
	}
	return words[kind]
}

// closed is the text of a type that is there, in parentheses, if it is of one of these kinds.
func (a *Arena) closed(id int, kinds ...int) string {
	t := a.types[id]
	for _, kind := range kinds {
		if t.Kind == kind {
			return "(" + t.words + ")"
		}
	}
	return t.words
}

func (a *Arena) allWords(ids []int, kinds ...int) []string {
	l := make([]string, len(ids))
	for i, id := range ids {
		l[i] = a.closed(id, kinds...)
	}
	return l
}

// memberWords is the texts of an object's members.
func (a *Arena) memberWords(t api.Type) []string {
	l := make([]string, len(t.Names))
	for i, name := range t.Names {
		sign := ": "
		if t.Marks[i] {
			sign = "?: "
		}
		l[i] = name + sign + a.closed(t.Parts[i])
	}
	return l
}

// paramWords is the texts of a function's parameters.
func (a *Arena) paramWords(t api.Type) []string {
	l := make([]string, len(t.Marks))
	for i, mark := range t.Marks {
		if mark {
			l[i] = a.closed(t.Parts[i], api.KFunc, api.KUnion) + "?"
		} else {
			l[i] = a.closed(t.Parts[i])
		}
	}
	return l
}

// argumentWords is the text of what a reference's parameters are.
func (a *Arena) argumentWords(t api.Type) string {
	if len(t.Parts) == 0 {
		return ""
	}
	return "<" + strings.Join(a.allWords(t.Parts), ", ") + ">"
}
