package value

import (
	"cmp"
	"strconv"
	"strings"

	"shuck/api"
)

// said is a settled value as text; of a text it is that text itself.
func said(v api.Value) string {
	switch v.Kind {
	case api.VUndefined:
		return "undefined"
	case api.VNull:
		return "null"
	case api.VBool:
		return strconv.FormatBool(v.Num != 0)
	case api.VNumber:
		return strconv.Itoa(v.Num)
	}
	return v.Text
}

func plus(a, b api.Value) (api.Value, string, int) {
	switch {
	case a.Kind == api.VNumber && b.Kind == api.VNumber:
		return ofNumbers(a, b, sum)
	case a.Kind == api.VRef || b.Kind == api.VRef || a.Kind != api.VString && b.Kind != api.VString:
		return throw("TypeError: +")
	}
	return joined(said(a), said(b))
}

// joined is built anew, since Go's own + answers one of both as it is, if the other one is empty.
func joined(a, b string) (api.Value, string, int) {
	if len(a)+len(b) > api.MaxBytes {
		return fail(api.FaultFull)
	}
	var text strings.Builder
	text.Grow(len(a) + len(b))
	text.WriteString(a)
	text.WriteString(b)
	return api.Value{Kind: api.VString, Text: text.String()}, "", api.FaultNone
}

// ordered is whether the order of both, below 0 where a is less and above it where b is, is one that is asked for.
func ordered(a, b api.Value, asked func(order int) bool) (api.Value, string, int) {
	switch {
	case a.Kind == api.VNumber && b.Kind == api.VNumber:
		return truth(asked(cmp.Compare(a.Num, b.Num)))
	case a.Kind == api.VString && b.Kind == api.VString:
		return truth(asked(compared(a.Text, b.Text)))
	}
	return throw("TypeError: order")
}

// compared is the order of two texts by their runes. By their bytes it would be another one of texts that are not UTF-8.
func compared(a, b string) int {
behind:
	for _, x := range a {
		if b == "" {
			return 1
		}
		for at, y := range b {
			// Where the second rune begins tells how wide the first one was: not all that are Bad are one width.
			if at > 0 {
				b = b[at:]
				continue behind
			}
			if x != y {
				return cmp.Compare(x, y)
			}
		}
		b = ""
	}
	if b != "" {
		return -1
	}
	return 0
}
