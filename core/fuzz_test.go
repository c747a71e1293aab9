package core_test

import (
	"testing"

	"shuck/api"
	"shuck/core"
	"shuck/tree"
)

// P5.1 to P5.3: trees by the bytes of a text, whole and spoiled.
func FuzzCore(f *testing.F) {
	for _, s := range []string{"", "a", "shuck", "\x00\x01\x02\x03\x04\x05\x06\x07", "\xff\xfe\xfd\xfc\xfb\xfa", "what is only for types goes"} {
		f.Add([]byte(s), uint16(len(s)), len(s))
	}
	f.Fuzz(func(t *testing.T, b []byte, node uint16, value int) {
		g := grower{newTable(), func(n int) int {
			if len(b) == 0 {
				return 0
			}
			c := int(b[0])
			b = b[1:]
			return c % n
		}}
		x := g.treeOf(g.fill(g.pick("Program E any"), 4))
		agrees(t, g.table, x)
		agrees(t, g.table, turned(x, func(l []api.Node) {
			n := &l[int(node)%len(l)]
			switch g.choose(4) {
			case 0:
				n.Kind = value
			case 1:
				n.Num = value
			case 2:
				n.Kids = append(n.Kids, value)
			case 3:
				n.Kids = n.Kids[:len(n.Kids)/2]
			}
		}))
	})
}

// agrees holds both calls against the chapter's words.
func agrees(t *testing.T, x table, y api.Tree) {
	t.Helper()
	n, e := tree.Check(y)
	s, got := core.Strip(y)
	if e != api.OK {
		checks(t, "what is no tree", y, n, e)
		if got != api.ErrTree || s.Nodes != nil {
			t.Errorf("Strip of %v: %v, %v", y, s, got)
		}
		return
	}
	n, e = x.check(y)
	checks(t, tell(y), y, n, e)
	r := x.thingOf(y.Nodes, 0)
	if r.word != "Program" && !has(expressions, r.word) {
		if got != api.ErrTree || s.Nodes != nil {
			t.Errorf("Strip of %s: %v, %v", tell(y), s, got)
		}
		return
	}
	if want := x.treeOf(x.strip(r)); got != api.OK || !equal(s, want) {
		t.Errorf("Strip of %s:\n%s, %v, want\n%s", tell(y), tell(s), got, tell(want))
	}
	follows(t, y)
}
