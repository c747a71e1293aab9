package lex_test

import (
	"bytes"
	"slices"
	"testing"
	"unsafe"

	"shuck/api"
	"shuck/lex"
)

const mixed = "let x = `a${'é'}b${ {} }c` // r\n+ 12 >>> y; /* r */ #"

// spoil makes something else of a text.
func spoil(b []byte) {
	for i := range b {
		b[i] = ';'
	}
}

// P2.7: nothing that is handed in changes, not even the room behind its end.
func TestNothingChanged(t *testing.T) {
	whole := []byte(mixed)
	for n := range len(whole) + 1 {
		b := whole[:n]
		first := scan(string(b))
		var got []scanned
		for x, e := range lex.Scan(b) {
			got = append(got, scanned{x, e})
		}
		l, at, e := lex.Tokens(b)
		if !slices.Equal(got, first) {
			t.Errorf("of %d bytes: %v, want %v", n, got, first)
		}
		if last := first[len(first)-1]; last.e != e || e != api.OK && at != last.t.At || e == api.OK && len(l) != len(first) {
			t.Errorf("of %d bytes: %v, %d, %d", n, l, at, e)
		}
		if string(whole) != mixed {
			t.Fatalf("of %d bytes: %q", n, whole)
		}
	}
	all, _, _ := lex.Tokens([]byte("({`${[`x`]}`})"))
	before := slices.Clone(all)
	for n := range len(all) + 1 {
		lex.Depth(all[:n], 1)
		if !slices.Equal(all, before) {
			t.Fatal(n, all)
		}
	}
}

// P2.7: an iterator goes through what there was when it was made, as often as one likes.
func TestIteratorKeepsNothing(t *testing.T) {
	want := scan(mixed)
	b := []byte(mixed)
	all := lex.Scan(b)
	spoil(b)
	for range 3 {
		var got []scanned
		for x, e := range all {
			got = append(got, scanned{x, e})
			spoil(b)
		}
		if !slices.Equal(got, want) {
			t.Errorf("changed behind the call: %v", got)
		}
	}
	b = []byte(mixed)
	var got []scanned
	for x, e := range lex.Scan(b) {
		got = append(got, scanned{x, e})
		spoil(b)
	}
	if !slices.Equal(got, want) {
		t.Errorf("changed in the loop: %v", got)
	}
}

// P2.7: what is answered stays, whatever becomes of the text and of other answers.
func TestAnswersAreNew(t *testing.T) {
	const s = "let x = `a${'é'}b${ {} }c` + 12 >>> y;"
	b := []byte(s)
	first, _, _ := lex.Tokens(b)
	second, _, _ := lex.Tokens(b)
	want := slices.Clone(first)
	spoil(b)
	clear(second[:cap(second)])
	if !slices.Equal(first, want) || first[0].Text != "let" {
		t.Errorf("%v, want %v", first, want)
	}
	sign := api.Token{Kind: api.TokSign, Text: string([]byte(">>>")), At: 1, End: 4}
	rest, _ := lex.Split(sign)
	if unsafe.StringData(rest.Text) == unsafe.StringData(sign.Text[1:]) {
		t.Error("Split hands back a part of its argument")
	}
}

// P2.1: an iterator may be left anywhere, hands on nothing more, and begins anew.
func TestIteratorLeft(t *testing.T) {
	for _, s := range append(samples(), mixed, string(bytes.Repeat([]byte(" "), api.MaxBytes+1))) {
		all, want := lex.Scan([]byte(s)), scan(s)
		for n := range len(want) {
			var got []scanned
			all(func(x api.Token, e api.Errno) bool {
				got = append(got, scanned{x, e})
				return len(got) <= n
			})
			if !slices.Equal(got, want[:n+1]) {
				t.Errorf("%.40q left at %d: %v", s, n, got)
			}
		}
	}
}

// P2.1: loops over one iterator, one inside another.
func TestIteratorNested(t *testing.T) {
	const s = "`a${b}${{`c${d}`}}` }"
	all, want := lex.Scan([]byte(s)), scan(s)
	var outer []scanned
	for x, e := range all {
		outer = append(outer, scanned{x, e})
		var inner []scanned
		for y, f := range all {
			if inner = append(inner, scanned{y, f}); len(inner) == len(outer)+1 {
				break
			}
		}
		if !slices.Equal(inner, want[:min(len(outer)+1, len(want))]) {
			t.Errorf("within %d: %v", len(outer), inner)
		}
	}
	if !slices.Equal(outer, want) {
		t.Errorf("%v, want %v", outer, want)
	}
}
