package erase_test

import (
	"testing"

	"shuck/api"
	"shuck/bind"
)

// had counts what a program that is taken has of each sort.
func had(t *testing.T, x api.Tree, count map[string]int) {
	t.Helper()
	uses, _, _ := bind.Program(x)
	s := newSlow(t, x, uses)
	for n, node := range s.l {
		if _, ok := s.constEnum(n); ok {
			count["a member of a Const Enum"]++
		}
		switch {
		case s.is(n, "Enum") && node.Num == 0:
			count["an Enum"]++
		case s.is(n, "Namespace"):
			count["a Namespace"]++
		case s.is(n, "Export"):
			count["an Export"]++
		case s.is(n, "Param") && node.Num > api.Optional && s.is(s.l[s.up[s.up[s.up[s.up[n]]]]].Kids[1], "Base"):
			count["a Param behind a Super"]++
		case s.is(n, "Param") && node.Num > api.Optional:
			count["a Param without a Base"]++
		}
	}
}

// P13.1 to P13.3: programs by chance, from what offends in them to what is taken, against a slow reading of the chapter.
func TestChance(t *testing.T) {
	g := newGrower(1)
	offended, has := map[string]int{}, map[string]int{}
	for n := range 3000 {
		if x, ok := g.good(t, 3+n%4, offended); ok {
			had(t, x, has)
		}
	}
	for _, why := range []string{"", "chapter 7", "refused", "a Base", "alone", "no member", "assigned", "made"} {
		if offended[why] < 30 {
			t.Errorf("%q: only %d", why, offended[why])
		}
	}
	for _, what := range []string{"a member of a Const Enum", "an Enum", "a Namespace", "an Export", "a Param behind a Super", "a Param without a Base"} {
		if has[what] < 60 {
			t.Errorf("%s: only %d", what, has[what])
		}
	}
}
