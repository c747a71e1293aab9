package value

import (
	"strings"

	"shuck/api"
)

// settled is a value as the chapter counts it, with what its kind has alone: two are the same, if they are equal then.
func settled(v api.Value) api.Value {
	switch v.Kind {
	case api.VNull:
		return api.Value{Kind: api.VNull}
	case api.VBool:
		return boolean(v.Num != 0)
	case api.VNumber:
		return api.Value{Kind: api.VNumber, Num: min(max(v.Num, -api.MaxNumber), api.MaxNumber)}
	case api.VString:
		return api.Value{Kind: api.VString, Text: v.Text}
	case api.VRef:
		return api.Value{Kind: api.VRef, Num: v.Num}
	}
	return api.Value{}
}

func boolean(is bool) api.Value {
	v := api.Value{Kind: api.VBool}
	if is {
		v.Num = 1
	}
	return v
}

func truth(is bool) (api.Value, string, int) { return boolean(is), "", api.FaultNone }

func number(n int) (api.Value, string, int) {
	return api.Value{Kind: api.VNumber, Num: n}, "", api.FaultNone
}

// nothing is what is made by what is no operator.
func nothing() (api.Value, string, int) { return api.Value{}, "", api.FaultNone }

// throw answers a text of its own each time: no two answers share memory.
func throw(text string) (api.Value, string, int) {
	return api.Value{}, strings.Clone(text), api.FaultThrow
}

func fail(fault int) (api.Value, string, int) { return api.Value{}, "", fault }
