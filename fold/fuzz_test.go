package fold_test

import (
	"testing"
)

// P11.1 to P11.3: trees by the bytes of a text, whole and spoiled.
func FuzzFold(f *testing.F) {
	for _, s := range []string{"", "a", "shuck", "\x00\x01\x02\x03\x04\x05\x06\x07", "\xff\xfe\xfd\xfc\xfb\xfa", "the values of enums are reckoned as at run time"} {
		f.Add([]byte(s))
	}
	f.Fuzz(func(t *testing.T, b []byte) {
		g := grower{func(n int) int {
			if len(b) == 0 {
				return 0
			}
			c := int(b[0])
			b = b[1:]
			return c % n
		}}
		x := g.program()
		agreesAll(t, x)
		agreesAll(t, g.spoiled(x))
		agreesAll(t, g.constant(5))
	})
}
