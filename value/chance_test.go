package value_test

import (
	"math/rand/v2"
	"strings"
	"testing"

	"shuck/api"
)

// maker makes values by numbers that choose.
type maker struct {
	choose func(n int) int // 0 to n - 1
}

func newMaker(seed uint64) maker { return maker{rand.New(rand.NewPCG(seed, 14)).IntN} }

func pick[T any](m maker, l []T) T { return l[m.choose(len(l))] }

// number is a small one, one near a power of two or an edge, or one of whatever digits, beyond the ends too.
func (m maker) number() int {
	switch m.choose(4) {
	case 0:
		return m.choose(41) - 20
	case 1:
		return pick(m, edgeNumbers())
	case 2:
		n := 1<<m.choose(63) + m.choose(5) - 2
		return n * (1 - 2*m.choose(2))
	}
	n := 0
	for range 8 {
		n = n<<8 | m.choose(256)
	}
	return n >> m.choose(64)
}

// text is of a few pieces, mostly of few sorts, so that two often begin alike; seldom about MaxBytes bytes long.
func (m maker) text() string {
	if m.choose(40) == 0 {
		return strings.Repeat(pick(m, []string{"a", "\xff"}), api.MaxBytes-20+m.choose(24))
	}
	var s strings.Builder
	for range m.choose(6) {
		s.WriteString(pick(m, someTexts()))
	}
	return s.String()
}

// value is of a kind, mostly a number or a text, and mostly with the fields that it has alone.
func (m maker) value() api.Value {
	v := api.Value{Kind: pick(m, []int{api.VUndefined, api.VNull, api.VBool, api.VNumber, api.VNumber, api.VNumber, api.VString, api.VString, api.VString, api.VRef})}
	if m.choose(20) == 0 {
		v.Kind = m.number()
	}
	all := m.choose(8) == 0
	if all || v.Kind == api.VNumber || v.Kind == api.VRef || v.Kind == api.VBool {
		v.Num = m.number()
	}
	if v.Kind == api.VBool && !all {
		v.Num = m.choose(2)
	}
	if all || v.Kind == api.VString {
		v.Text = m.text()
	}
	return v
}

// beside is a value of the kind of another one, often the same.
func (m maker) beside(v api.Value) api.Value {
	switch m.choose(4) {
	case 0:
		return v
	case 1:
		v.Num += m.choose(3) - 1
		return v
	case 2:
		v.Text = v.Text[:m.choose(len(v.Text)+1)] + m.text()
		return v
	}
	v.Num, v.Text = m.number(), m.text()
	return v
}

func (m maker) unaryOp() string {
	if m.choose(8) == 0 {
		return pick(m, append(noOps(), binaryOps()...))
	}
	return pick(m, unaryOps())
}

func (m maker) binaryOp() string {
	if m.choose(30) == 0 {
		return pick(m, append(noOps(), unaryOps()...))
	}
	return pick(m, binaryOps())
}

// P14.1 to P14.4: of each op, the values of all kinds and edges, each with each.
func TestAllOnesAgree(t *testing.T) {
	for _, a := range ones() {
		for _, op := range unaryOps() {
			agreesOne(t, op, a)
		}
		for _, b := range ones() {
			for _, op := range binaryOps() {
				agrees(t, op, a, b)
			}
		}
	}
}

// P14.3, P14.4: of each op the numbers at all edges, each with each.
func TestEdgeNumbersAgree(t *testing.T) {
	for _, a := range edgeNumbers() {
		for _, op := range unaryOps() {
			agreesOne(t, op, num(a))
		}
		for _, b := range edgeNumbers() {
			for _, op := range binaryOps() {
				makes(t, op, num(a), num(b), slowBinary(op, num(a), num(b)))
			}
		}
	}
}

// P14.4: of each op all the texts, each with each.
func TestTextsAgree(t *testing.T) {
	for _, a := range someTexts() {
		agreesOne(t, "!", words(a))
		for _, b := range someTexts() {
			for _, op := range binaryOps() {
				makes(t, op, words(a), words(b), slowBinary(op, words(a), words(b)))
			}
		}
	}
}

// P14.1 to P14.4: values by chance.
func TestByChance(t *testing.T) {
	m := newMaker(1)
	had := map[int]int{}
	for range 100_000 {
		v := m.value()
		agreesOne(t, m.unaryOp(), v)
		w := m.value()
		if m.choose(2) == 0 {
			w = m.beside(v)
		}
		op := m.binaryOp()
		agrees(t, op, v, w)
		had[slowBinary(op, v, w).fault]++
	}
	for fault, least := range map[int]int{api.FaultNone: 10_000, api.FaultThrow: 10_000, api.FaultInexact: 400, api.FaultFull: 20} {
		if had[fault] < least {
			t.Errorf("too few of one sort: %v", had)
		}
	}
}

// P14.3, P14.4: numbers by chance.
func TestNumbersByChance(t *testing.T) {
	m := newMaker(2)
	had := map[int]int{}
	for range 100_000 {
		a, b := num(m.number()), num(m.number())
		agreesOne(t, m.unaryOp(), a)
		op := pick(m, binaryOps())
		makes(t, op, a, b, slowBinary(op, a, b))
		had[slowBinary(op, a, b).fault]++
	}
	if had[api.FaultNone] < 20_000 || had[api.FaultInexact] < 3000 {
		t.Errorf("too few of one sort: %v", had)
	}
}
