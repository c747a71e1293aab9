package heap_test

import (
	"math"
	"testing"

	"shuck/api"
)

// P15.8: what typeof says of each value and of each thing.
func TestTypeof(t *testing.T) {
	b := protos(t)
	for _, x := range []struct {
		v    api.Value
		want string
	}{
		{undefined(), "undefined"}, {null(), "object"}, {yes(), "boolean"}, {no(), "boolean"}, {num(0), "number"}, {num(-1), "number"}, {num(math.MaxInt), "number"}, {words(""), "string"}, {words("undefined"), "string"}, {words("\xff"), "string"},
		{ref(0), "object"}, {ref(1), "object"}, {ref(2), "function"}, {ref(3), "function"},
		{ref(-1), "undefined"}, {ref(4), "undefined"}, {ref(math.MinInt), "undefined"}, {ref(math.MaxInt), "undefined"},
		{api.Value{Kind: 6}, "undefined"}, {api.Value{Kind: -1, Text: "a"}, "undefined"}, {api.Value{Kind: math.MaxInt}, "undefined"}, {api.Value{Kind: math.MinInt}, "undefined"}, {api.Value{Num: 1, Text: "a"}, "undefined"},
		{api.Value{Kind: api.VNull, Num: 2, Text: "a"}, "object"}, {api.Value{Kind: api.VBool, Num: 2}, "boolean"}, {api.Value{Kind: api.VNumber, Text: "a"}, "number"}, {api.Value{Kind: api.VString, Num: 2}, "string"},
		{api.Value{Kind: api.VRef, Num: 2, Text: "a"}, "function"},
	} {
		b.gives(typeOf(x.v), says(x.want))
	}
}
