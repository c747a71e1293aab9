package relate

import (
	"iter"

	"shuck/api"
	"shuck/kinds"
)

// pair is two types, x for y.
type pair struct{ x, y int }

// row is a pair that is reached, and its answer: yes, till more of what it asks has turned to no than it can spare.
type row struct {
	pair
	spare  int   // how many of the pairs that it asks may still turn
	askers []int // the rows that ask it, each as often as it does
}

// isYes tells whether a row's answer has not turned.
func (r row) isYes() bool { return r.spare >= 0 }

// worklist is the pairs that are reached from the first one, each once.
type worklist struct {
	rules
	rows    []row
	numbers map[pair]int // of the rows
}

// begun is a worklist with its first pair alone.
func begun(a *kinds.Arena, first pair) *worklist {
	return &worklist{
		rules:   rules{arena: a, pieces: map[int]members{}},
		rows:    []row{{pair: first}},
		numbers: map[pair]int{first: 0},
	}
}

// isComplex tells whether there is no answer.
func (w *worklist) isComplex() bool { return w.tooLarge || len(w.rows) > api.MaxPairs }

// reached goes through the pairs, each as soon as it is reached: who stops in time has the list no longer than that.
func (w *worklist) reached() iter.Seq[pair] {
	return func(yield func(pair) bool) {
		if !yield(w.rows[0].pair) {
			return
		}
		// The list grows meanwhile.
		for n := 0; n < len(w.rows); n++ {
			q := w.asked(w.rows[n].pair)
			w.rows[n].spare = q.spare
			for _, p := range q.pairs {
				if w.note(p, n) && !yield(p) {
					return
				}
			}
		}
	}
}

// note notes that a row asks a pair, and tells whether that pair is new.
func (w *worklist) note(p pair, asker int) bool {
	n, ok := w.numbers[p]
	if !ok {
		n = len(w.rows)
		w.numbers[p] = n
		w.rows = append(w.rows, row{pair: p})
	}
	w.rows[n].askers = append(w.rows[n].askers, asker)
	return !ok
}

// settled turns answers to no, round by round, till none turns; and tells whether the first pair's has not.
func (w *worklist) settled() bool {
	turned := w.refused()
rounds:
	for len(turned) > 0 {
		var next []int
		for _, n := range turned {
			for _, asker := range w.rows[n].askers {
				r := &w.rows[asker]
				was := r.isYes()
				r.spare--
				if !was || r.isYes() {
					continue
				}
				if asker == 0 {
					break rounds // nothing turns back
				}
				next = append(next, asker)
			}
		}
		turned = next
	}
	return w.rows[0].isYes()
}

// refused is the rows whose answer is no, whatever others answer.
func (w *worklist) refused() []int {
	var l []int
	for n, r := range w.rows {
		if !r.isYes() {
			l = append(l, n)
		}
	}
	return l
}
