package value_test

import (
	"testing"

	"shuck/api"
)

// P14.3, P14.4: the examples of the chapter, as they stand there.
func TestExamples(t *testing.T) {
	makes(t, "+", num(9007199254740991), num(1), inexact())
	makes(t, "+", num(-9007199254740991), num(-1), inexact())
	makes(t, "*", num(94906266), num(94906267), inexact())
	makes(t, "%", num(-7), num(3), answered(-1))
	makes(t, "%", num(7), num(0), inexact())
	makes(t, "<<", num(1), num(31), answered(-2147483648))
	makes(t, ">>>", num(-1), num(0), answered(4294967295))
	makes(t, "|", num(4294967297), num(0), answered(1))
	makes(t, "+", words("a"), null(), joined("anull"))
	makes(t, "+", num(1), is(true), answer{api.Value{}, "TypeError: +", api.FaultThrow})
	makes(t, "<", words("é"), words("z"), truth(false))
	turns(t, "~", num(0), answered(-1))
	turns(t, "-", words("1"), answer{api.Value{}, "TypeError: number", api.FaultThrow})
}
