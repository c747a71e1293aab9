package erase_test

import (
	"testing"

	"shuck/api"
	"shuck/bind"
)

// P13.1 to P13.4: programs by the bytes of a text, whole, mended, with other types and spoiled.
func FuzzErase(f *testing.F) {
	for _, s := range []string{"", "a", "shuck", "\x00\x01\x02\x03\x04\x05\x06\x07", "\xff\xfe\xfd\xfc\xfb\xfa", "enums, namespaces, members that are parameters", "\x01\x05\x09\x01\x05\x09\x01\x05\x09"} {
		f.Add([]byte(s), uint16(len(s)), len(s))
	}
	f.Fuzz(func(t *testing.T, b []byte, node uint16, value int) {
		g := newGrower(0)
		g.choose = func(n int) int {
			if len(b) == 0 {
				return 0
			}
			c := int(b[0])
			b = b[1:]
			return c % n
		}
		x, ok := g.good(t, 3+g.choose(3), map[string]int{})
		if ok {
			agrees(t, "with other types", g.another(t, x))
		}
		if len(x.Nodes) == 0 || len(x.Nodes) > 400 {
			return
		}
		spoiled := turned(x, func(l []api.Node) {
			n := &l[int(node)%len(l)]
			switch g.choose(5) {
			case 0:
				n.Kind = value
			case 1:
				n.Num = value
			case 2:
				n.Kids = append(n.Kids, value)
			case 3:
				n.Kids = n.Kids[:len(n.Kids)/2]
			case 4:
				n.Text = g.pick(valueNames + " " + memberNames)
			}
		})
		if _, n, e := bind.Program(spoiled); e != api.OK {
			if got := program(t, spoiled); !got.is(answer{api.Tree{}, n, e}) {
				t.Errorf("%v, %d, not %v, %d", got.err, got.node, e, n)
			}
			return
		}
		agrees(t, "spoiled", spoiled)
	})
}
