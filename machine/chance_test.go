package machine_test

import (
	"strings"
	"testing"

	"shuck/api"
	"shuck/parse"
)

// face is the Program that takes what the maker makes.
func (m *maker) face() face {
	if m.typed {
		return typed()
	}
	return plain()
}

// good makes programs until one is taken; it counts those that are, and those that are not.
func (m *maker) good(size int, why map[string]int) (string, api.Tree) {
	for {
		text := m.program(size)
		x, _, e := parse.Program([]byte(text))
		if e != api.OK {
			panic(text)
		}
		if e := m.face().refuses(x); e != api.OK {
			why["refused"]++
			continue
		}
		why["good"]++
		return text, x
	}
}

// counts are how often at least something is to have happened, by a word for it, and how often runs are to have ended so.
type counts struct {
	runs    int
	endings []int
	had     map[string]int
}

// byChance holds programs by chance against the slow reading.
func (m *maker) byChance(t *testing.T, least counts) {
	t.Helper()
	had := map[string]int{}
	endings := make([]int, len(least.endings))
	for range least.runs {
		text, x := m.good(100+m.choose(500), had)
		fuel, cells := 50+m.choose(3000), 20+m.choose(400)
		inputs := []string{"a", "b\xff", ""}[:m.choose(4)]
		got := agrees(t, text, x, inputs, fuel, cells)
		endings[got.End]++
		_, has := m.face().slowly(x, inputs, fuel, cells)
		for what, n := range has {
			what, _, _ = strings.Cut(what, ": ")
			had[what] += n
		}
	}
	for end, n := range least.endings {
		if endings[end] < n {
			t.Errorf("end %d: only %d", end, endings[end])
		}
	}
	for what, n := range least.had {
		if had[what] < n {
			t.Errorf("%s: only %d", what, had[what])
		}
	}
	if had["refused"] > had["good"] {
		t.Errorf("only %d of %d are good", had["good"], had["good"]+had["refused"])
	}
}

// P16.1, P17.3: plain programs by chance, run by both Programs.
func TestChance(t *testing.T) {
	t.Parallel()
	newMaker(1).byChance(t, counts{800, []int{0, 200, 100, 8, 8, 8, 1}, map[string]int{
		"calls": 500, "makings": 300, "catch": 300, "finally": 80, "goes on": 20, "break": 5, "continue": 60, "push": 100, "super.": 5, "=": 100, "+=": 300, "%=": 30, "taken": 30, "no line": 30, "ReferenceError": 20, "TypeError": 100,
	}})
}

// P17.1, P17.2: typed programs by chance, as they stand and erased.
func TestTypedChance(t *testing.T) {
	t.Parallel()
	newTypedMaker(1).byChance(t, counts{800, []int{0, 200, 100, 8, 8, 8, 1}, map[string]int{
		"calls": 500, "makings": 300, "catch": 300, "push": 100, "super.": 5, "ReferenceError": 20, "TypeError": 100,
		"through": 500, "called through": 200, "an Enum": 100, "a Const Enum": 100, "a member of a Const Enum": 100, "a Namespace": 100, "exported": 50, "kept": 100,
	}})
}
