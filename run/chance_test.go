package run_test

import (
	"strings"
	"testing"

	"shuck/api"
	"shuck/bind"
	"shuck/parse"
)

// good makes programs until one is taken; it counts those that are, and those that are not.
func (m *maker) good(size int, why map[string]int) (string, api.Tree) {
	for {
		text := m.program(size)
		x, _, e := parse.Program([]byte(text))
		if e != api.OK {
			panic(text)
		}
		if _, _, e := bind.Program(x); e != api.OK {
			why["names"]++
			continue
		}
		why["good"]++
		return text, x
	}
}

// P16.1: programs by chance, against the slow reading of the chapter.
func TestChance(t *testing.T) {
	m := newMaker(1)
	had := map[string]int{}
	endings := make([]int, 7)
	for range 800 {
		text, x := m.good(100+m.choose(500), had)
		fuel, cells := 50+m.choose(3000), 20+m.choose(400)
		inputs := []string{"a", "b\xff", ""}[:m.choose(4)]
		got := agrees(t, text, x, inputs, fuel, cells)
		endings[got.End]++
		_, _, has := slowlyWith(x, inputs, fuel, cells)
		for what, n := range has {
			what, _, _ = strings.Cut(what, ": ")
			had[what] += n
		}
	}
	for end, least := range []int{0, 200, 100, 8, 8, 8, 1} {
		if endings[end] < least {
			t.Errorf("end %d: only %d", end, endings[end])
		}
	}
	for what, least := range map[string]int{
		"calls": 500, "makings": 300, "catch": 300, "finally": 80, "goes on": 20, "break": 5, "continue": 60, "push": 100, "super.": 5, "=": 100, "+=": 300, "%=": 30, "taken": 30, "no line": 30, "ReferenceError": 20, "TypeError": 100,
	} {
		if had[what] < least {
			t.Errorf("%s: only %d", what, had[what])
		}
	}
	if had["names"] > had["good"] {
		t.Errorf("only %d of %d are good", had["good"], had["good"]+had["names"])
	}
}
