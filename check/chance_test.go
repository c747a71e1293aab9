package check_test

import (
	"testing"

	"shuck/api"
	"shuck/parse"
)

// P12.1: programs by chance, from what offends in them to what is taken, against a slow reading of the chapter.
func TestChance(t *testing.T) {
	g := newGrower(1)
	count := map[string]int{}
	for n := range 2000 {
		g.good(t, 3+n%5, count)
	}
	t.Log(count)
	for _, why := range []string{"OK", "asked", "itself", "no type", "no member", "end", "twice", "two of one name", "no interface", "no pieces"} {
		if count[why] < 100 {
			t.Errorf("%q: only %d", why, count[why])
		}
	}
}

// typedTree is the tree of a typed program by chance, if it is not too long.
func typedTree(seed uint64, statements, spoiling int) (string, api.Tree, bool) {
	text := newWriter(seed, spoiling).program(statements)
	x, _, e := parse.Program([]byte(text))
	return text, x, e == api.OK && len(x.Nodes) < 1200
}

// P12.1: typed programs by chance, most parts of the types that are asked for, against the slow reading.
func TestTypedChance(t *testing.T) {
	verdicts := map[api.Errno]int{}
	for n := range 800 {
		if text, x, ok := typedTree(uint64(n), 1+n%7, []int{0, 40, 12}[n%3]); ok {
			c, _ := agrees(t, text, x)
			verdicts[c.Err]++
		}
	}
	t.Log(verdicts)
	if verdicts[api.OK] < 50 || verdicts[api.ErrType] < 300 {
		t.Errorf("only %v", verdicts)
	}
}

// P12.1: typed programs by chance, mended till nothing offends.
func TestMendedChance(t *testing.T) {
	g := newGrower(2)
	taken := 0
	for n := range 40 {
		_, x, ok := typedTree(uint64(1000+n), 1+n%4, 20)
		if !ok {
			continue
		}
		root := thingOf(x, 0)
		for range 40 {
			made, things := lay(root)
			c, why := agrees(t, "mended", made)
			if c.Err != api.ErrType {
				taken++
				break
			}
			g.mendType(things[c.Node], parentOf(made, things, c.Node), why[c.Node])
		}
	}
	if taken < 20 {
		t.Errorf("only %d", taken)
	}
}

// spoil exchanges things of a program with each other, or with new ones.
func (g *grower) spoil(root *thing) {
	groups := map[string][]*thing{}
	var look func(x, above *thing)
	look = func(x, above *thing) {
		switch {
		case above != nil && isOf(above.kind, "Assign New Template"): // these take but some expressions
		case x.kind >= api.Num && x.kind <= api.Bang && x.kind != api.Prop && x.kind != api.Super:
			groups["E"] = append(groups["E"], x)
		case x.kind >= api.TypeName && x.kind != api.TypeProp && !(above.kind == api.Interface || x.kind == api.TypeName && above.kind == api.List):
			groups["T"] = append(groups["T"], x)
		case x.kind == api.Eval || x.kind == api.If || x.kind == api.Return || x.kind == api.Throw:
			groups["S"] = append(groups["S"], x)
		}
		for _, kid := range x.kids {
			look(kid, x)
		}
	}
	look(root, nil)
	for range 1 + g.choose(3) {
		word := g.pick("E E E T T S")
		l := groups[word]
		if len(l) == 0 {
			continue
		}
		x := l[g.choose(len(l))]
		if g.choose(2) == 0 {
			*x = *g.fill(word, 2)
		} else {
			other, _ := lay(l[g.choose(len(l))])
			*x = *thingOf(other, 0) // a copy: it may stand beneath itself
		}
	}
}

// P12.1: typed programs by chance with some of their nodes exchanged, against the slow reading.
func TestSpoiledChance(t *testing.T) {
	g := newGrower(3)
	verdicts := map[api.Errno]int{}
	for n := range 400 {
		_, x, ok := typedTree(uint64(2000+n), 1+n%4, 0)
		if !ok {
			continue
		}
		root := thingOf(x, 0)
		g.spoil(root)
		for range 60 {
			made, things := lay(root)
			c, _ := agrees(t, "spoiled", made)
			if c.Err != api.ErrName {
				verdicts[c.Err]++
				break
			}
			g.mendName(things[c.Node], things)
		}
	}
	t.Log(verdicts)
	if verdicts[api.ErrType] < 200 {
		t.Errorf("only %v", verdicts)
	}
}
