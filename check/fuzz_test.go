package check_test

import (
	"testing"

	"shuck/api"
	"shuck/bind"
	"shuck/tree"
)

// P12.1: programs by the bytes of a text, grown, typed and spoiled, against the slow reading.
func FuzzCheck(f *testing.F) {
	for _, s := range []string{"", "a", "shuck", "\x00\x01\x02\x03\x04\x05\x06\x07", "\xff\xfe\xfd\xfc\xfb\xfa", "types of programs: facts, ways that part and join", "\x01\x05\x09\x01\x05\x09\x01\x05\x09"} {
		f.Add([]byte(s), uint64(len(s)), uint16(len(s)), len(s))
	}
	f.Fuzz(func(t *testing.T, b []byte, seed uint64, node uint16, value int) {
		g := newGrower(0)
		g.choose = func(n int) int {
			if len(b) == 0 {
				return 0
			}
			c := int(b[0])
			b = b[1:]
			return c % n
		}
		g.good(t, 3+g.choose(3), map[string]int{})
		_, x, ok := typedTree(seed, 1+g.choose(4), g.choose(30))
		if !ok {
			return
		}
		agrees(t, "typed", x)
		root := thingOf(x, 0)
		g.spoil(root)
		x, _ = lay(root)
		spoiled := turned(x, func(l []api.Node) {
			n := &l[int(node)%len(l)]
			switch g.choose(4) {
			case 0:
				n.Kind = value
			case 1:
				n.Num = value
			case 2:
				n.Kids = append(n.Kids, value)
			case 3:
				n.Text = g.pick(valueNames + " " + typeNames)
			}
		})
		if n, e := tree.Check(spoiled); e != api.OK {
			if c := program(t, spoiled); c.Err != e || c.Node != n {
				t.Errorf("%v, %d, not %v, %d", c.Err, c.Node, e, n)
			}
			return
		}
		if _, n, e := bind.Program(spoiled); e != api.OK {
			if c := program(t, spoiled); c.Err != e || c.Node != n {
				t.Errorf("%v, %d, not %v, %d", c.Err, c.Node, e, n)
			}
			return
		}
		agrees(t, "spoiled", spoiled)
	})
}
