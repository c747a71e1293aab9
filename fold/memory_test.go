package fold_test

import (
	"slices"
	"strings"
	"testing"
	"unsafe"

	"shuck/api"
	"shuck/fold"
)

// P11.3: texts and names are new memory too, of each answer.
func TestTextsAreNew(t *testing.T) {
	said := strings.Clone("abc")
	// Made by hand: Make has texts of its own.
	x := api.Tree{Nodes: []api.Node{
		{Kind: api.Enum, Text: said, Kids: []int{1, 3}},
		{Kind: api.EnumMember, Text: said, Kids: []int{2}}, {Kind: api.Str, Text: said},
		{Kind: api.EnumMember, Text: "B", Kids: []int{4}}, {Kind: api.Str, Text: said},
	}}
	a, _, e := fold.Members(x, 0)
	b, _, e2 := fold.Members(x, 0)
	if e != api.OK || e2 != api.OK {
		t.Fatal(e, e2)
	}
	seen := map[*byte]bool{}
	for _, n := range x.Nodes {
		seen[unsafe.StringData(n.Text)] = true
	}
	for _, c := range slices.Concat(a, b) {
		for _, s := range []string{c.Name, c.Text} {
			if seen[unsafe.StringData(s)] {
				t.Errorf("%q of %v is what was handed in, or what was answered", s, c)
			}
			seen[unsafe.StringData(s)] = true
		}
	}
}

// P11.3: an answer stays what it was, whatever becomes of what was handed in and of another answer, its room too.
func TestAnswersAreNew(t *testing.T) {
	for _, s := range []string{"enum E { }", "enum E { A }", `enum E { A, B = 5, C, D = -1 << 2, E = "x" }`} {
		x := roomy(program(t, s))
		a, _, _ := fold.Members(x, 1)
		b, _, _ := fold.Members(x, 1)
		want := slices.Clone(a)
		overwrite(b)
		spoilAll(x)
		if !slices.Equal(a, want) {
			t.Errorf("%s: %v, not %v", s, a, want)
		}
		a = append(a, api.Constant{Name: "more"})
		c, _, _ := fold.Members(program(t, s), 1)
		if !slices.Equal(c, want) {
			t.Errorf("%s: %v, not %v", s, c, want)
		}
	}
}

// P11.3: nothing is kept from one call to the next, not by one that gave up either.
func TestNothingKept(t *testing.T) {
	good, bad := program(t, "enum E { A, B = 5, C }"), program(t, `enum E { C, B, A = "x", D }`)
	want := listed(t, good, 1)
	for range 3 {
		lists(t, "one that offends", bad, 1, answer{nil, bad.Nodes[1].Kids[3], api.ErrType})
		values(t, "one without a value", expr(t, "1 % 0"), 0, 0, api.ErrType)
		values(t, "one with a value", expr(t, "1 + 1"), 0, 2, api.OK)
		lists(t, "one that does not", good, 1, want)
	}
}

// P11.3: what several goroutines ask of one tree is what each of them asks alone.
func TestApart(t *testing.T) {
	x := program(t, `enum E { A, B = 5, C, D = -1 << 2, E = "x" }`)
	want := listed(t, x, 1)
	done := make(chan bool)
	for range 8 {
		go func() {
			same := true
			for range 200 {
				var got answer
				got.members, got.node, got.err = fold.Members(x, 1)
				v, e := fold.Value(x, 9)
				same = same && got.is(want) && v == -4 && e == api.OK
				overwrite(got.members)
			}
			done <- same
		}()
	}
	for range 8 {
		if !<-done {
			t.Error("another answer")
		}
	}
}
