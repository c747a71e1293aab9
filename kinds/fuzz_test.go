package kinds_test

import (
	"testing"

	"shuck/kinds"
)

// P8.1 to P8.10: scripts of calls by the bytes of a text.
func FuzzKinds(f *testing.F) {
	for _, s := range []string{"", "a", "shuck", "\x00\x01\x02\x03\x04\x05\x06\x07", "\xff\xfe\xfd\xfc\xfb\xfa", "types, each once, by their numbers: unions, members, parameters", "\x01\x05\x09\x0b\x01\x05\x09\x0b\x01\x05\x09\x0b"} {
		f.Add([]byte(s), len(s)%2 == 0)
	}
	f.Fuzz(func(t *testing.T, b []byte, zero bool) {
		choose := func(n int) int {
			if len(b) == 0 {
				return 0
			}
			c := int(b[0])
			b = b[1:]
			return c % n
		}
		a := kinds.New()
		if zero {
			a = &kinds.Arena{}
		}
		g := play(t, a, choose)
		for step := 0; step < 60 && len(b) > 0; step++ {
			g.step()
		}
		g.end()
	})
}
