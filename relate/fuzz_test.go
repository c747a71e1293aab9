package relate_test

import (
	"testing"

	"shuck/kinds"
)

// P9.1, P9.2, P9.5: types and definitions by the bytes of a text, against the slow reading.
func FuzzRelate(f *testing.F) {
	for _, s := range []string{"", "a", "shuck", "\x00\x01\x02\x03\x04\x05\x06\x07", "\xff\xfe\xfd\xfc\xfb\xfa", "which types take which: the greatest set of pairs that are reached", "\x05\x04\x03\x05\x04\x03\x02\x01\x05\x04\x03\x02"} {
		f.Add([]byte(s), len(s)%2 == 0)
	}
	f.Fuzz(func(t *testing.T, b []byte, zero bool) {
		choose := func(n int) int {
			if len(b) == 0 {
				return n - 1
			}
			c := int(b[0])
			b = b[1:]
			return c % n
		}
		a := kinds.New()
		if zero {
			a = &kinds.Arena{}
		}
		m := making(t, a, choose, plainWords+enumWords+anyWords, false)
		seen := tally{}
		for asked := 0; asked < 12 && (len(b) > 0 || asked == 0); asked++ {
			x, y := m.pick()
			m.hold(x, y, seen)
		}
	})
}
