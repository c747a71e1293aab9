package parse_test

import "testing"

// P4.1 to P4.5: any text, against all ways through the grammar.
func FuzzParse(f *testing.F) {
	for _, s := range samples() {
		f.Add([]byte(s), uint8(0))
	}
	for _, s := range []string{"a<b<c>>(d)", "x as A<B>> c", "(a) => b", "{a, b: 1}", "`${a}`", "a ? (b) : c => d"} {
		f.Add([]byte(s), uint8(1))
	}
	for _, s := range []string{"| A<B<C>>[]", "(x?: A) => {m(): -1}", "(A | 'b')[]"} {
		f.Add([]byte(s), uint8(2))
	}
	g := grammar()
	f.Fuzz(func(t *testing.T, b []byte, which uint8) {
		r := readings()[int(which)%3]
		if len(b) > 400 {
			// All ways at once take too long; what holds of every answer is still asked.
			if x, at, e := r.call(b); e == 0 {
				follows(t, string(b), x)
			} else if at < 0 || at > len(b) {
				t.Errorf("%d, %v", at, e)
			}
			return
		}
		agree(t, g, r, string(b))
	})
}
