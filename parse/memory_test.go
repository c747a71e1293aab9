package parse_test

import (
	"bytes"
	"slices"
	"strings"
	"testing"
	"unsafe"

	"shuck/api"
)

// P4.6: nothing that is handed in changes, not even the room behind its end.
func TestNothingChanged(t *testing.T) {
	for _, s := range append(samples(), "a", "A", "if if", "((", "1a", strings.Repeat("(", 99)) {
		b := []byte(s + "behind")
		for _, r := range readings() {
			r.call(b[:len(s)])
			if string(b) != s+"behind" {
				t.Errorf("%s(%q) leaves %q", r.word, s, b)
			}
		}
	}
}

// P4.6: nothing that is handed in is kept, and nothing of one answer is of another.
func TestAnswersAreNew(t *testing.T) {
	for _, s := range samples() {
		b := []byte(s)
		x, _, _ := program().call(b)
		y, _, _ := program().call(b)
		for i := range b {
			b[i] = '#'
		}
		want := program().taken(t, s)
		if !sameTree(x, want) {
			t.Errorf("%q: what was answered changes with what was handed in", s)
		}
		nodes := x.Nodes[:cap(x.Nodes)]
		for i := range nodes {
			kids := nodes[i].Kids[:cap(nodes[i].Kids)]
			for j := range kids {
				kids[j] = -1
			}
			nodes[i] = api.Node{Kind: -1, Text: "spoiled"}
		}
		if !sameTree(y, want) || !sameTree(program().taken(t, s), want) {
			t.Errorf("%q: what was answered changes with another answer", s)
		}
	}
}

// P4.6: no two lists of an answer share any room.
func TestListsShareNothing(t *testing.T) {
	for _, s := range samples() {
		x := program().taken(t, s)
		for i := range x.Nodes {
			kids := x.Nodes[i].Kids[:cap(x.Nodes[i].Kids)]
			for j := range kids {
				if kids[j] == -1 {
					t.Fatalf("%q: node %d shares its list", s, i)
				}
				kids[j] = -1
			}
		}
	}
}

// P4.6: no text of a node lies within what was handed in.
func TestTextsAreNew(t *testing.T) {
	for _, s := range samples() {
		b := bytes.Clone([]byte(s))
		x, _, _ := program().call(b)
		begin := uintptr(unsafe.Pointer(unsafe.SliceData(b)))
		for i, y := range x.Nodes {
			if at := uintptr(unsafe.Pointer(unsafe.StringData(y.Text))); y.Text != "" && at >= begin && at < begin+uintptr(len(b)) {
				t.Errorf("%q: the text of node %d is not new", s, i)
			}
		}
		if !slices.Equal(b, []byte(s)) {
			t.Errorf("%q changes", s)
		}
	}
}
