package bind_test

import (
	"testing"

	"shuck/api"
	"shuck/tree"
)

// P7.1: programs by the bytes of a text, whole, spoiled and mended.
func FuzzBind(f *testing.F) {
	for _, s := range []string{"", "a", "shuck", "\x00\x01\x02\x03\x04\x05\x06\x07", "\xff\xfe\xfd\xfc\xfb\xfa", "what names stand for: scopes, uses, dead zones", "\x01\x05\x09\x01\x05\x09\x01\x05\x09"} {
		f.Add([]byte(s), uint16(len(s)), len(s))
	}
	f.Fuzz(func(t *testing.T, b []byte, node uint16, value int) {
		g := newGrower(0)
		g.choose = func(n int) int {
			if len(b) == 0 {
				return 0
			}
			c := int(b[0])
			b = b[1:]
			return c % n
		}
		g.good(t, 3+g.choose(3), map[string]int{})
		x, _ := lay(g.grow("Program", 4))
		if len(x.Nodes) > 250 {
			return
		}
		spoiled := turned(x, func(l []api.Node) {
			n := &l[int(node)%len(l)]
			switch g.choose(5) {
			case 0:
				n.Kind = value
			case 1:
				n.Num = value
			case 2:
				n.Kids = append(n.Kids, value)
			case 3:
				n.Kids = n.Kids[:len(n.Kids)/2]
			case 4:
				n.Text = g.pick(names)
			}
		})
		if n, e := tree.Check(spoiled); e != api.OK {
			told(t, "spoiled", spoiled, nil, n, e)
			return
		}
		if spoiled.Nodes[0].Kind != api.Program {
			told(t, "another root", spoiled, nil, 0, api.ErrTree)
			return
		}
		agrees(t, spoiled)
		uses, n, e := program(t, spoiled)
		told(t, "again", spoiled, uses, n, e)
	})
}
