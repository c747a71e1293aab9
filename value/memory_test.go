package value_test

import (
	"slices"
	"strings"
	"testing"
	"unsafe"

	"shuck/api"
	"shuck/value"
)

// places is where the bytes of texts lie.
type places map[*byte]bool

// fresh tells whether a text lies where none lay before.
func (p places) fresh(s string) bool {
	at := unsafe.StringData(s)
	if s == "" {
		return true
	}
	had := p[at]
	p[at] = true
	return !had
}

// P14.6 (W6): a text that is answered is new memory: neither an argument's nor another answer's.
func TestTextsAreNew(t *testing.T) {
	seen := places{}
	a, b, empty := strings.Clone("abc"), strings.Clone("é"), strings.Clone("")
	seen.fresh(a)
	seen.fresh(b)
	for range 3 {
		for _, v := range []api.Value{words(a), words(b), undefined(), null(), is(true), is(false), num(0), num(7), num(42), num(-5), num(12345)} {
			if s := value.Text(v); !seen.fresh(s) {
				t.Errorf("Text(%v) shares", v)
			}
			for _, x := range []answer{binary("+", v, words(empty)), binary("+", words(empty), v), binary("+", words(a), v), binary("+", v, words(b))} {
				if !seen.fresh(x.v.Text) {
					t.Errorf("a sum of %v shares: %v", v, x)
				}
			}
		}
		for _, x := range []answer{unary("-", null()), unary("~", words(a)), binary("+", null(), null()), binary("-", num(1), null()), binary("<", num(1), words("a"))} {
			if !seen.fresh(x.text) {
				t.Errorf("%v shares", x)
			}
		}
	}
}

// P14.6 (W6): an answer stays what it was, whatever becomes of the bytes that an argument's text lies in.
func TestNothingKept(t *testing.T) {
	for _, op := range []string{"+", "===", "<", "-"} {
		bytes := []byte("abcdef")
		s := unsafe.String(&bytes[0], len(bytes))
		ahead := binary(op, words(s), words(""))
		text := value.Text(words(s))
		want := answer{ahead.v, strings.Clone(ahead.text), ahead.fault}
		want.v.Text = strings.Clone(ahead.v.Text)
		copy(bytes, "xxxxxx")
		if ahead != want || text != "abcdef" {
			t.Errorf("%s: %v, %q, not %v", op, ahead, text, want)
		}
		copy(bytes, "abcdef")
		if again := binary(op, words(s), words("")); again != want {
			t.Errorf("%s again: %v, not %v", op, again, want)
		}
	}
}

// P14.6: what several goroutines ask is what each asks alone, in whatever order.
func TestApart(t *testing.T) {
	type asked struct {
		op   string
		a, b api.Value
	}
	var l []asked
	m := newMaker(6)
	for range 2000 {
		l = append(l, asked{m.binaryOp(), m.value(), m.value()})
	}
	type told struct {
		both, one answer
		text      string
		truth     bool
	}
	ask := func(x asked) told {
		return told{binary(x.op, x.a, x.b), unary(x.op, x.a), value.Text(x.b), value.Truth(x.b)}
	}
	var want []told
	for _, x := range l {
		want = append(want, ask(x))
	}
	done := make(chan bool)
	for n := range 8 {
		go func() {
			same := true
			for i := range l {
				if n%2 == 1 {
					i = len(l) - 1 - i
				}
				same = same && ask(l[i]) == want[i]
			}
			done <- same
		}()
	}
	for range 8 {
		if !<-done {
			t.Error("another answer")
		}
	}
}

// P14.6: an error has nothing beside it (W3), and no answer has a field that its kind has not (W5).
func TestFields(t *testing.T) {
	fields := func(v api.Value) bool {
		switch v.Kind {
		case api.VBool:
			return v.Text == "" && (v.Num == 0 || v.Num == 1)
		case api.VNumber:
			return v.Text == "" && v.Num >= -top && v.Num <= top
		case api.VString:
			return v.Num == 0
		}
		return v == undefined()
	}
	for _, a := range ones() {
		for _, b := range ones() {
			for _, op := range slices.Concat(binaryOps(), unaryOps(), noOps()) {
				for _, x := range []answer{binary(op, a, b), unary(op, a)} {
					if !fields(x.v) || (x.text != "") != (x.fault == api.FaultThrow) || x.fault != api.FaultNone && x.v != undefined() {
						t.Fatalf("%v %q %v: %v", a, op, b, x)
					}
				}
			}
		}
	}
}
