package narrow_test

import (
	"testing"

	"shuck/api"
	"shuck/kinds"
)

// P10.1 to P10.4: types, definitions and tests by the bytes of a text, against the slow reading.
func FuzzNarrow(f *testing.F) {
	for _, s := range []string{"", "a", "shuck", "\x00\x01\x02\x03\x04\x05\x06\x07", "\xff\xfe\xfd\xfc\xfb\xfa", "what tests leave of a type: yes, no, or either", "\x05\x04\x03\x05\x04\x03\x02\x01\x05\x04\x03\x02"} {
		f.Add([]byte(s), "number", len(s)%2 == 0)
		f.Add([]byte(s), "k", len(s)%2 == 1)
	}
	f.Fuzz(func(t *testing.T, b []byte, text string, zero bool) {
		choose := func(n int) int {
			if len(b) == 0 {
				return n - 1
			}
			c := int(b[0])
			b = b[1:]
			return c % n
		}
		a := kinds.New()
		if zero {
			a = &kinds.Arena{}
		}
		m := making(t, a, choose)
		for held := 0; held < 12 && (len(b) > 0 || held == 0); held++ {
			m.hold()
			m.holdKeep(m.pickID(), api.Test{Kind: 1 + choose(5), Text: text, Type: m.value()})
		}
	})
}
