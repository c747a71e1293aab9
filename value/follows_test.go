package value_test

import (
	"math"
	"strings"
	"testing"
	"unicode/utf8"

	"shuck/api"
	"shuck/fold"
	"shuck/tree"
	"shuck/value"
)

// counted is how many of three truths hold.
func counted(t *testing.T, l ...answer) int {
	t.Helper()
	n := 0
	for _, a := range l {
		if a != truth(true) && a != truth(false) {
			t.Fatalf("%v is no truth", a)
		}
		n += a.v.Num
	}
	return n
}

// justOne holds that of a < b, a === b, b < a just one is so.
func justOne(t *testing.T, a, b api.Value) {
	t.Helper()
	if n := counted(t, binary("<", a, b), binary("===", a, b), binary("<", b, a)); n != 1 {
		t.Errorf("%v, %v: %d of less, the same, more hold", short(a), short(b), n)
	}
}

// numbersFollow holds what P14.5 says of two numbers, and what else follows from the chapter.
func numbersFollow(t *testing.T, a, b api.Value) {
	t.Helper()
	once := unary("-", a)
	twice := unary("-", once.v)
	same := binary("===", twice.v, a)
	if once.fault != api.FaultNone || twice.fault != api.FaultNone || same != truth(true) {
		t.Errorf("- of - of %v: %v", a, twice)
	}
	for _, op := range []string{"+", "*", "&", "|", "^", "===", "!=="} {
		makes(t, op, a, b, binary(op, b, a))
	}
	justOne(t, a, b)
	if d, s := binary("-", a, b), binary("+", a, unary("-", b).v); d != s {
		t.Errorf("%v - %v: %v, not %v", a, b, d, s)
	}
	if x := unary("~", a); x != binary("^", a, num(-1)) {
		t.Errorf("~ of %v: %v", a, x)
	}
}

// P14.5: numbers at the edges, each with each, and by chance.
func TestNumbersFollow(t *testing.T) {
	for _, a := range edgeNumbers() {
		for _, b := range edgeNumbers() {
			numbersFollow(t, num(a), num(b))
		}
	}
	m := newMaker(3)
	for range 50_000 {
		numbersFollow(t, num(m.number()), num(m.number()))
	}
}

// P14.5: - of - of a number is it: of one beyond an end that end.
func TestTwice(t *testing.T) {
	for n, want := range map[int]int{0: 0, 7: 7, -7: -7, top: top, -top: -top, top + 1: top, math.MaxInt: top, math.MinInt: -top} {
		turns(t, "-", unary("-", num(n)).v, answered(want))
	}
}

// P14.5: of two texts that are UTF-8 just one holds; by chance.
func TestTextsFollow(t *testing.T) {
	m := newMaker(4)
	held := 0
	for range 50_000 {
		a := words(m.text())
		b := m.beside(a)
		if !utf8.ValidString(a.Text) || !utf8.ValidString(b.Text) {
			a.Text, b.Text = strings.ToValidUTF8(a.Text, "\uFFFE"), strings.ToValidUTF8(b.Text, "\uFFFE")
		}
		justOne(t, a, b)
		held += binary("===", a, b).v.Num
	}
	if held < 5000 || held > 45_000 {
		t.Errorf("%d are the same", held)
	}
}

// P14.5: of texts that are not UTF-8 none may hold, but never two: their runes are the same, they are not.
func TestBadTextsFollow(t *testing.T) {
	for _, a := range someTexts() {
		for _, b := range someTexts() {
			n := counted(t, binary("<", words(a), words(b)), binary("===", words(a), words(b)), binary("<", words(b), words(a)))
			if n != 1 && !(n == 0 && string([]rune(a)) == string([]rune(b)) && a != b) {
				t.Errorf("%q, %q: %d of less, the same, more hold", a, b, n)
			}
		}
	}
	if n := counted(t, binary("<", words("\xff"), words("\uFFFD")), binary("===", words("\xff"), words("\uFFFD")), binary("<", words("\uFFFD"), words("\xff"))); n != 0 {
		t.Errorf("%d hold", n)
	}
}

// P14.1, P14.3: ! of ! tells whether a value is truthy.
func TestNotNot(t *testing.T) {
	for _, v := range ones() {
		turns(t, "!", unary("!", v).v, truth(value.Truth(v)))
	}
}

// constant is a tree of a number that is a constant.
func constant(n int) api.Tree {
	if n < 0 {
		return tree.Make(api.Node{Kind: api.Unary, Text: "-"}, constant(-n))
	}
	return tree.Make(api.Node{Kind: api.Num, Num: n})
}

// asFold holds the value of a tree of numbers that are no more than the ends.
func asFold(t *testing.T, x api.Tree, a answer) {
	t.Helper()
	n, e := fold.Value(x, 0)
	if want := answered(n); e == api.OK && a != want || e == api.ErrType && a != inexact() || e != api.OK && e != api.ErrType {
		t.Errorf("%v: %v, but %d, %v", x, a, n, e)
	}
}

// P14.3, P14.4: numbers are reckoned here as chapter 11 reckons constants.
func TestAsFold(t *testing.T) {
	m := newMaker(5)
	for range 20_000 {
		a, b := min(max(m.number(), -top), top), min(max(m.number(), -top), top)
		op := pick(m, append(numberOps(), "+"))
		asFold(t, tree.Make(api.Node{Kind: api.Binary, Text: op}, constant(a), constant(b)), binary(op, num(a), num(b)))
		op = pick(m, []string{"-", "~"})
		asFold(t, tree.Make(api.Node{Kind: api.Unary, Text: op}, constant(a)), unary(op, num(a)))
	}
}
