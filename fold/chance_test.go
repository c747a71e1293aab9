package fold_test

import (
	"math/rand/v2"
	"strings"
	"testing"

	"shuck/api"
)

// grower makes trees by numbers that choose.
type grower struct {
	choose func(n int) int // 0 to n - 1
}

func newGrower(seed uint64) grower { return grower{rand.New(rand.NewPCG(seed, 11)).IntN} }

func (g grower) pick(words string) string {
	l := strings.Fields(words)
	return l[g.choose(len(l))]
}

// number is a small one, or one near a power of two.
func (g grower) number() api.Tree {
	if g.choose(2) == 0 {
		return number(g.choose(40))
	}
	return number(min(max(0, 1<<g.choose(54)+g.choose(5)-2), api.MaxNumber))
}

// constant is an expression of constants, at most so deep.
func (g grower) constant(deep int) api.Tree {
	switch {
	case deep <= 0 || g.choose(6) == 0:
		return g.number()
	case g.choose(4) == 0:
		return node(api.Unary, g.pick("- ~"), 0, g.constant(deep-1))
	}
	return both(g.pick("+ - * % << >> >>> & | ^"), g.constant(deep-1), g.constant(deep-1))
}

// other is an expression that is none of constants, but may have some within.
func (g grower) other(deep int) api.Tree {
	list := node(api.List, "", 0)
	switch g.choose(9) {
	case 0:
		return node(api.Name, g.pick("A B x"), 0)
	case 1:
		return node(api.Str, g.pick("a 1 é"), 0)
	case 2:
		return node(api.Unary, g.pick("! typeof"), 0, g.mixed(deep-1))
	case 3:
		return both(g.pick("|| && === !== < <= > >= in"), g.mixed(deep-1), g.mixed(deep-1))
	case 4:
		return node(api.Bang, "", 0, g.mixed(deep-1))
	case 5:
		return node(api.Cond, "", 0, g.mixed(deep-1), g.mixed(deep-1), g.mixed(deep-1))
	case 6:
		return node(api.Call, "", 0, g.mixed(deep-1), list, node(api.List, "", 0, g.mixed(deep-1), g.mixed(deep-1)))
	case 7:
		return node(api.As, "", 0, g.mixed(deep-1), node(api.TypeNum, "", g.choose(9)-4))
	}
	return node(api.Object, "", 0, node(api.Prop, "A", 0, g.mixed(deep-1)))
}

// mixed is any expression, mostly of constants.
func (g grower) mixed(deep int) api.Tree {
	switch {
	case deep <= 0:
		return g.number()
	case g.choose(8) == 0:
		return g.other(deep)
	case g.choose(5) == 0:
		return node(api.Unary, g.pick("- ~"), 0, g.mixed(deep-1))
	case g.choose(5) == 0:
		return g.constant(deep)
	}
	return both(g.pick("+ - * % << >> >>> & | ^"), g.mixed(deep-1), g.mixed(deep-1))
}

// enum is an Enum whose Names are mostly there once.
func (g grower) enum(mark int) api.Tree {
	var members []api.Tree
	names := strings.Fields("A B C D E F G H")
	for i := range g.choose(len(names) + 1) {
		name := names[i]
		if g.choose(20) == 0 {
			name = names[g.choose(len(names))]
		}
		members = append(members, node(api.EnumMember, name, 0, g.initial()))
	}
	return node(api.Enum, "E", mark, members...)
}

// initial is what an EnumMember has.
func (g grower) initial() api.Tree {
	switch g.choose(16) {
	case 0, 1, 2, 3, 4, 5:
		return none()
	case 6:
		return node(api.Str, g.pick("a 1 é"), 0)
	case 7:
		return g.mixed(3)
	case 8:
		return number(api.MaxNumber - g.choose(3))
	}
	return g.constant(1 + g.choose(2))
}

// program has enums and expressions in several places.
func (g grower) program() api.Tree {
	var l []api.Tree
	for range 1 + g.choose(4) {
		switch g.choose(5) {
		case 0:
			l = append(l, node(api.Eval, "", 0, g.mixed(3)))
		case 1:
			l = append(l, node(api.Namespace, "N", 0, node(api.Export, "", 0, g.enum(0)), g.enum(g.choose(2))))
		case 2:
			l = append(l, node(api.Block, "", 0, g.enum(g.choose(2)), node(api.Var, "v", g.choose(2), none(), g.mixed(2))))
		default:
			l = append(l, g.enum(g.choose(2)))
		}
	}
	return node(api.Program, "", 0, l...)
}

// spoiled is a tree with a node changed; it may still be one.
func (g grower) spoiled(x api.Tree) api.Tree {
	return turned(x, func(l []api.Node) {
		n := &l[g.choose(len(l))]
		switch g.choose(6) {
		case 0:
			n.Kind = g.choose(90)
		case 1:
			n.Num = g.choose(6) - 2
		case 2:
			n.Text = g.pick("A B + - ! ~ % / é")
		case 3:
			n.Kids = append(n.Kids, g.choose(len(l)+1))
		case 4:
			n.Kids = n.Kids[:len(n.Kids)/2]
		case 5:
			n.At = -g.choose(1000)
		}
	})
}

// agrees holds both calls at one node against the slow reading.
func agrees(t *testing.T, x api.Tree, n int) {
	t.Helper()
	v, e := asked(t, x, n)
	if want, err := slowValue(x, n); v != want || e != err {
		t.Errorf("Value(%d) of %v: %d, %v, not %d, %v", n, x, v, e, want, err)
	}
	got := listed(t, x, n)
	if want := slowMembers(x, n); !got.is(want) {
		t.Errorf("Members(%d) of %v: %v, not %v", n, x, got, want)
	}
}

// agreesAll holds both calls at each node, and beside them, against the slow reading.
func agreesAll(t *testing.T, x api.Tree) {
	t.Helper()
	for n := -1; n <= len(x.Nodes); n++ {
		agrees(t, x, n)
	}
}

// P11.1: expressions by chance, each with all that stands beneath it.
func TestExpressionsByChance(t *testing.T) {
	g := newGrower(1)
	had := map[api.Errno]int{}
	for range 4000 {
		for _, x := range []api.Tree{g.constant(4), g.mixed(3)} {
			agreesAll(t, x)
			_, e := slowValue(x, 0)
			had[e]++
		}
	}
	if had[api.OK] < 1000 || had[api.ErrType] < 1000 {
		t.Errorf("too few of one sort: %v", had)
	}
}

// P11.1, P11.2: programs by chance, whole and spoiled.
func TestProgramsByChance(t *testing.T) {
	g := newGrower(2)
	had := map[api.Errno]int{}
	for range 400 {
		x := g.program()
		agreesAll(t, x)
		agreesAll(t, g.spoiled(x))
		for n := range x.Nodes {
			had[slowMembers(x, n).err]++
		}
	}
	if had[api.OK] < 150 || had[api.ErrType] < 150 {
		t.Errorf("too few of one sort: %v", had)
	}
}
