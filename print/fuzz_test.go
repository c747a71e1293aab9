package print_test

import (
	"testing"

	"shuck/api"
	"shuck/core"
	"shuck/print"
	"shuck/tree"
)

// P6.1 to P6.4: trees by the bytes of a text, whole and spoiled.
func FuzzPrint(f *testing.F) {
	for _, s := range []string{"", "a", "shuck", "\x00\x01\x02\x03\x04\x05\x06\x07", "\xff\xfe\xfd\xfc\xfb\xfa", "plain trees as text, least parentheses"} {
		f.Add([]byte(s), uint16(len(s)), len(s))
	}
	f.Fuzz(func(t *testing.T, b []byte, node uint16, value int) {
		g := newGrower(0)
		g.choose = func(n int) int {
			if len(b) == 0 {
				return 0
			}
			c := int(b[0])
			b = b[1:]
			return c % n
		}
		if g.choose(2) == 0 {
			g.exprs = "Chain"
		}
		x := g.fill(g.pick("Program E"), 3)
		agrees(t, x)
		spoiled := turned(x, func(l []api.Node) {
			n := &l[int(node)%len(l)]
			switch g.choose(4) {
			case 0:
				n.Kind = value
			case 1:
				n.Num = value
			case 2:
				n.Kids = append(n.Kids, value)
			case 3:
				n.Kids = n.Kids[:len(n.Kids)/2]
			}
		})
		_, want := core.Check(spoiled)
		_, e1 := print.Program(spoiled)
		_, e2 := print.Expr(spoiled)
		switch {
		case want != api.OK && (e1 != want || e2 != want):
			t.Errorf("%v: %v, %v, want %v", spoiled, e1, e2, want)
		case want == api.OK && (e1 == api.OK) == (e2 == api.OK) && (e1 == api.OK || print.Level(spoiled.Nodes[0]) >= 0):
			t.Errorf("%v: %v, %v", spoiled, e1, e2)
		case want == api.OK && !tree.Same(spoiled, x) && (e1 == api.OK || e2 == api.OK):
			agrees(t, spoiled)
		}
	})
}
