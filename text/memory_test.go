package text_test

import (
	"bytes"
	"go/parser"
	"go/token"
	"path/filepath"
	"slices"
	"strings"
	"testing"

	"shuck/api"
	"shuck/text"
)

// spoil makes something else of a text.
func spoil(b []byte) {
	for i := range b {
		b[i] = '\n'
	}
}

// P1.8: nothing that is handed in changes, not even the room behind its end.
func TestNothingChanged(t *testing.T) {
	whole := []byte("aé\xff\nb\U0001f600\xe4\xb8\xad behind the end\n")
	before := bytes.Clone(whole)
	for n := range len(whole) + 1 {
		b := whole[:n]
		for at := -1; at <= n+1; at++ {
			text.Decode(b, at)
			text.Place(b, at)
			text.Line(b, at)
		}
		runes(b)
		lines(b)
		if !bytes.Equal(whole, before) {
			t.Fatalf("of %d bytes: % x", n, whole)
		}
	}
}

// P1.8: an iterator goes through what there was when it was made.
func TestIteratorsKeepNothing(t *testing.T) {
	const s = "aé\xff\nb"
	wantRunes, wantLines := runes([]byte(s)), lines([]byte(s))

	b := []byte(s)
	allRunes, allLines := text.Runes(b), text.Lines(b)
	spoil(b)
	for range 2 {
		var gotRunes []placed
		for at, r := range allRunes {
			gotRunes = append(gotRunes, placed{at, r})
		}
		var gotLines []line
		for at, s := range allLines {
			gotLines = append(gotLines, line{at, s})
		}
		if !slices.Equal(gotRunes, wantRunes) || !slices.Equal(gotLines, wantLines) {
			t.Errorf("changed behind the call: %v, %v", gotRunes, gotLines)
		}
	}
}

// P1.8: nor does a change within the loop reach it.
func TestIteratorsWhileChanged(t *testing.T) {
	const s = "aé\xff\nb"
	b := []byte(s)
	var gotRunes []placed
	for at, r := range text.Runes(b) {
		gotRunes = append(gotRunes, placed{at, r})
		spoil(b)
	}
	if want := runes([]byte(s)); !slices.Equal(gotRunes, want) {
		t.Errorf("Runes, changed in the loop: %v", gotRunes)
	}
	b = []byte(s)
	var gotLines []line
	for at, s := range text.Lines(b) {
		gotLines = append(gotLines, line{at, s})
		spoil(b)
	}
	if want := lines([]byte(s)); !slices.Equal(gotLines, want) {
		t.Errorf("Lines, changed in the loop: %v", gotLines)
	}
}

// P1.8: an answer stays what it was, whatever becomes of the text.
func TestAnswersAreNew(t *testing.T) {
	b := []byte("one\ntwo")
	first, e := text.Line(b, 1)
	all := lines(b)
	spoil(b)
	if first != "one" || e != api.OK || !slices.Equal(all, []line{{0, "one"}, {4, "two"}}) {
		t.Errorf("%q, %v, %v", first, e, all)
	}
}

// The chapter's head: nothing of unicode/utf8 is called.
func TestByHand(t *testing.T) {
	names, err := filepath.Glob("*.go")
	if err != nil {
		t.Fatal(err)
	}
	for _, name := range names {
		if strings.HasSuffix(name, "_test.go") {
			continue
		}
		file, err := parser.ParseFile(token.NewFileSet(), name, nil, parser.ImportsOnly)
		if err != nil {
			t.Fatal(err)
		}
		for _, i := range file.Imports {
			if i.Path.Value == `"unicode/utf8"` {
				t.Errorf("%s imports unicode/utf8", name)
			}
		}
	}
}
