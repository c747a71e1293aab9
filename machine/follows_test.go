package machine_test

import (
	"slices"
	"testing"

	"shuck/api"
)

// first tells whether outputs are the first ones of others.
func first(l, of []string) bool { return len(l) <= len(of) && slices.Equal(l, of[:len(l)]) }

// some hands on programs by chance, plain ones and then typed ones, and what they may be handed.
func some(t *testing.T, seed uint64, count int, each func(m *maker, text string, x api.Tree, inputs []string)) {
	t.Helper()
	for _, m := range []*maker{newMaker(seed), newTypedMaker(seed)} {
		why := map[string]int{}
		for range count {
			text, x := m.good(100+m.choose(400), why)
			each(m, text, x, []string{"a", "bé", "", "c\xff"}[:m.choose(5)])
		}
	}
}

// P16.2, P17.3: with more fuel, what ended not with EndFuel ends the same; what did has the first ones of the outputs.
func TestMoreFuel(t *testing.T) {
	t.Parallel()
	counted := map[int]int{}
	some(t, 2, 200, func(m *maker, text string, x api.Tree, inputs []string) {
		all := program(t, m.face(), x, inputs, 600, 40)
		counted[all.End]++
		last := answer{Outcome: api.Outcome{End: api.EndFuel}}
		for fuel := 0; fuel <= min(all.Steps+2, 600); fuel += 1 + m.choose(1+all.Steps/8) {
			got := program(t, m.face(), x, inputs, fuel, 40)
			switch {
			case got.Steps > fuel || got.End == api.EndFuel && got.Steps != fuel:
				t.Fatalf("%s: %d steps of %d", text, got.Steps, fuel)
			case got.End != api.EndFuel && !got.is(all):
				t.Fatalf("%s, %d steps: %+v, then %+v", text, fuel, got.short(), all.short())
			case !first(last.Outputs, got.Outputs) || got.Cells < last.Cells || last.End != api.EndFuel && !last.is(got):
				t.Fatalf("%s, %d steps: %+v, with fewer %+v", text, fuel, got.short(), last.short())
			}
			last = got
		}
	})
	for _, end := range []int{api.EndDone, api.EndThrow, api.EndFuel, api.EndHeap, api.EndInexact} {
		if counted[end] < 3 {
			t.Errorf("%d: only %d", end, counted[end])
		}
	}
}

// P16.3, P17.3: with more cells, what ended not with EndHeap ends the same.
func TestMoreCells(t *testing.T) {
	t.Parallel()
	counted := 0
	some(t, 3, 200, func(m *maker, text string, x api.Tree, inputs []string) {
		all := program(t, m.face(), x, inputs, 2000, api.MaxCells)
		for cells := 0; cells < all.Cells+3; cells += 1 + m.choose(1+all.Cells/8) {
			got := program(t, m.face(), x, inputs, 2000, cells)
			switch {
			case got.End != api.EndHeap && !got.is(all):
				t.Fatalf("%s, %d cells: %+v, then %+v", text, cells, got.short(), all.short())
			case got.End == api.EndHeap && !first(got.Outputs, all.Outputs):
				t.Fatalf("%s, %d cells: %+v, then %+v", text, cells, got.short(), all.short())
			case got.End == api.EndHeap:
				counted++
			}
		}
	})
	if counted < 200 {
		t.Error(counted)
	}
}

// P16.4, P17.3: a run hangs on the inputs that it took alone.
func TestOtherInputs(t *testing.T) {
	t.Parallel()
	counted := map[string]int{}
	some(t, 4, 400, func(m *maker, text string, x api.Tree, inputs []string) {
		got := program(t, m.face(), x, inputs, 2000, 200)
		_, has := m.face().slowly(x, inputs, 2000, 200)
		taken := inputs[:has["taken"]]
		for _, other := range [][]string{{}, {"z"}, {"a", "\x00", "zz"}} {
			if has["no line"] > 0 && len(other) > 0 {
				continue
			}
			counted[lines(other)]++
			again := program(t, m.face(), x, slices.Concat(taken, other), 2000, 200)
			if !again.is(got) {
				t.Fatalf("%s, %q: %+v; %q: %+v", text, inputs, got.short(), other, again.short())
			}
		}
		if len(taken) > 0 {
			counted["taken"]++
		}
	})
	for _, what := range []string{"", "z", "taken"} {
		if counted[what] < 40 {
			t.Errorf("%q: only %d", what, counted[what])
		}
	}
}

// P16.4, P17.3: runs side by side, and one behind the other, answer the same: none knows of another.
func TestSideBySide(t *testing.T) {
	type known struct {
		face
		x    api.Tree
		want answer
	}
	var all []known
	some(t, 5, 60, func(m *maker, _ string, x api.Tree, _ []string) {
		all = append(all, known{m.face(), x, program(t, m.face(), x, []string{"p"}, 2000, 200)})
	})
	same := make(chan bool)
	for range 8 {
		go func() {
			ok := true
			for _, k := range all {
				ok = ok && k.program(k.x, []string{"p"}, 2000, 200).is(k.want)
			}
			same <- ok
		}()
	}
	for range 8 {
		if !<-same {
			t.Error("another answer")
		}
	}
}

// P16.4, P17.3: where nodes began in a text changes nothing.
func TestAtIsNotLookedAt(t *testing.T) {
	some(t, 6, 100, func(m *maker, text string, x api.Tree, inputs []string) {
		got := program(t, m.face(), x, inputs, 1000, 200)
		h := newHanded(x, inputs)
		for i := range h.nodes {
			h.nodes[i].At = m.choose(1000) - 500
		}
		if again := h.program(m.face(), 1000, 200); !again.is(got) {
			t.Fatalf("%s: %+v, then %+v", text, got.short(), again.short())
		}
	})
}
