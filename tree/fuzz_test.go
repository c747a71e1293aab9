package tree_test

import (
	"slices"
	"testing"

	"shuck/api"
	"shuck/tree"
)

// P3.1, P3.4 to P3.6: trees by the bytes of a text, taken and spoiled.
func FuzzTree(f *testing.F) {
	for _, s := range []string{"", "a", "shuck", "\x00\x01\x02\x03\x04\x05\x06\x07", "\xff\xfe\xfd\xfc\xfb\xfa", "nodes in rows, the table of kinds"} {
		f.Add([]byte(s), uint8(len(s)))
	}
	f.Fuzz(func(t *testing.T, b []byte, spoils uint8) {
		g := grower{newWords(), func(n int) int {
			if len(b) == 0 {
				return 0
			}
			c := int(b[0])
			b = b[1:]
			return c % n
		}}
		x := g.any(4)
		same(t, "grown", x, -1, api.OK)
		for range spoils % 8 {
			x = g.spoil(x)
		}
		want, e := g.check(x)
		same(t, "spoiled", x, want, e)
		if e != api.OK {
			if len(walked(x)) != 0 || tree.Depth(x) != 0 {
				t.Errorf("goes through %v", x)
			}
			return
		}
		if got, want := walked(x), slowWalk(x, 0, 0); !slices.Equal(got, want) {
			t.Errorf("%v: %v, want %v", x, got, want)
		}
		for n, root := range x.Nodes {
			sub, e := tree.Sub(x, n)
			if want := slowSub(x, n); e != api.OK || !equal(sub, want) {
				t.Errorf("%d of %v: %v, %v", n, x, sub, e)
			}
			if got, want := found(x, n, root.Kind), slowFind(x, n, root.Kind); !slices.Equal(got, want) {
				t.Errorf("%d of %v: %v, want %v", n, x, got, want)
			}
		}
	})
}
