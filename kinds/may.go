package kinds

import (
	"unicode/utf8"

	"shuck/api"
	"shuck/lex"
)

// The fields of a type that a kind may have.
const (
	hasNum = 1 << iota
	hasText
	hasParts
	hasNames
	hasMarks
)

// mayBe tells whether Find takes a type, whatever its size.
func (a *Arena) mayBe(t api.Type) bool {
	fields, ok := fieldsOf(t.Kind)
	if !ok || fieldsIn(t)&^fields != 0 || !a.hasAll(t.Parts) {
		return false
	}
	switch t.Kind {
	case api.KNumIs:
		return t.Num >= -api.MaxNumber && t.Num <= api.MaxNumber
	case api.KStrIs:
		return utf8.ValidString(t.Text)
	case api.KArray:
		return len(t.Parts) == 1
	case api.KObject:
		return len(t.Parts) == len(t.Names) && len(t.Marks) == len(t.Names) && areRisingNames(t.Names)
	case api.KFunc:
		return len(t.Parts) == len(t.Marks)+1 && areLast(t.Marks)
	case api.KRef, api.KVar, api.KEnum, api.KClass, api.KCases, api.KSpace:
		return isDeclared(t)
	case api.KCase:
		return isDeclared(t) && len(t.Parts) == 1 && a.types[t.Parts[0]].Kind == api.KEnum
	}
	return true
}

// fieldsOf is what a kind has; and whether Find takes it at all.
func fieldsOf(kind int) (int, bool) {
	switch kind {
	case api.KAny, api.KUnknown, api.KNever, api.KVoid, api.KUndefined,
		api.KNull, api.KNumber, api.KString, api.KTrue, api.KFalse:
		return 0, true
	case api.KNumIs:
		return hasNum, true
	case api.KStrIs:
		return hasText, true
	case api.KArray:
		return hasParts, true
	case api.KObject:
		return hasNames | hasParts | hasMarks, true
	case api.KFunc:
		return hasParts | hasMarks, true
	case api.KRef, api.KCase:
		return hasNum | hasText | hasParts, true
	case api.KVar, api.KEnum, api.KClass, api.KCases, api.KSpace:
		return hasNum | hasText, true
	}
	return 0, false
}

// fieldsIn is what a type has.
func fieldsIn(t api.Type) int {
	fields := 0
	if t.Num != 0 {
		fields |= hasNum
	}
	if t.Text != "" {
		fields |= hasText
	}
	if len(t.Parts) > 0 {
		fields |= hasParts
	}
	if len(t.Names) > 0 {
		fields |= hasNames
	}
	if len(t.Marks) > 0 {
		fields |= hasMarks
	}
	return fields
}

// isDeclared tells whether a type has a node that may declare it, and its name.
func isDeclared(t api.Type) bool { return t.Num >= 0 && isName(t.Text) }

func areRisingNames(names []string) bool {
	for i, name := range names {
		if !isName(name) || i > 0 && names[i-1] >= name {
			return false
		}
	}
	return true
}

// areLast tells whether behind a mark all others are set, too.
func areLast(marks []bool) bool {
	for i, mark := range marks {
		if i > 0 && marks[i-1] && !mark {
			return false
		}
	}
	return true
}

// isName tells whether a text is a name, of any length.
func isName(s string) bool {
	for i := range len(s) {
		if !isLetter(s[i]) && (i == 0 || !isDigit(s[i])) {
			return false
		}
	}
	return s != "" && !isReserved(s)
}

func isLetter(c byte) bool {
	return 'A' <= c && c <= 'Z' || 'a' <= c && c <= 'z' || c == '_' || c == '$'
}

func isDigit(c byte) bool {
	return '0' <= c && c <= '9'
}

// isReserved asks lex, which has the words; but it refuses long texts, and none of them is one.
func isReserved(s string) bool {
	if len(s) > api.MaxBytes {
		return false
	}
	for t := range lex.Scan([]byte(s)) {
		return t.Kind == api.TokWord
	}
	return false
}
