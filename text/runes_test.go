package text_test

import (
	"bytes"
	"slices"
	"testing"

	"shuck/api"
	"shuck/text"
)

type placed struct {
	at int
	r  rune
}

func runes(b []byte) []placed {
	var all []placed
	for at, r := range text.Runes(b) {
		all = append(all, placed{at, r})
	}
	return all
}

// samples are texts of every sort: ordinary ones, edges, bad bytes.
func samples() []string {
	return []string{
		"", "a", "\n", "\n\n", "a\n", "\na", "a\r\nb", "ab\ncd\nef", "aé\n日本\n\U0001f600 z",
		"\xff", "a\xffé", "\xc3\n\xa9", "\xe4\xb8\n\xad", "\xf0\x9f\x98\n\x80", "\xed\xa0\x80", "\xc0\x80", "\xf4\x90\x80\x80",
		"é\xe4\xb8", "\x80\x80\x80", "\xe4\xb8\xad\xe4\xb8", "\xef\xbf\xbd\xff", "\x00\x01\x1f\x7f\t\r\"\\",
	}
}

// P1.2: places and runes, good ones and bad ones.
func TestRunes(t *testing.T) {
	for _, x := range []struct {
		s    string
		want []placed
	}{
		{"", nil},
		{"ab", []placed{{0, 'a'}, {1, 'b'}}},
		{"a\xff\xc3\xa9", []placed{{0, 'a'}, {1, api.Bad}, {2, 'é'}}},
		{"é日\U0001f600z", []placed{{0, 'é'}, {2, '日'}, {5, 0x1F600}, {9, 'z'}}},
		{"\xe4\xb8a", []placed{{0, api.Bad}, {1, api.Bad}, {2, 'a'}}},
		{"a\xe4\xb8", []placed{{0, 'a'}, {1, api.Bad}, {2, api.Bad}}},
		{"\xed\xa0\x80", []placed{{0, api.Bad}, {1, api.Bad}, {2, api.Bad}}},
		{"\xef\xbf\xbd\xff", []placed{{0, api.Bad}, {3, api.Bad}}},
	} {
		if got := runes([]byte(x.s)); !slices.Equal(got, x.want) {
			t.Errorf("Runes(% x): %v, want %v", x.s, got, x.want)
		}
	}
	if got := runes(nil); len(got) != 0 {
		t.Errorf("Runes(nil): %v", got)
	}
}

// P1.6: the pieces are the text.
func TestRunesLaidTogether(t *testing.T) {
	for _, s := range samples() {
		b := []byte(s)
		var laid []byte
		for at, r := range text.Runes(b) {
			if _, _, good := text.Decode(b, at); !good {
				laid = append(laid, b[at])
				continue
			}
			laid = append(laid, string(r)...)
		}
		if !bytes.Equal(laid, b) {
			t.Errorf("pieces of % x: % x", b, laid)
		}
	}
}

func sameAsRange(t *testing.T, b []byte) {
	t.Helper()
	var want []placed
	for at, r := range string(b) {
		want = append(want, placed{at, r})
	}
	if got := runes(b); !slices.Equal(got, want) {
		t.Fatalf("Runes(% x): %v, want %v", b, got, want)
	}
}

// P1.6: the language's own range tells the same.
func TestRunesAsRange(t *testing.T) {
	for _, s := range samples() {
		sameAsRange(t, []byte(s))
	}
	edges := edgeBytes()
	for _, a := range edges {
		for _, b := range edges {
			for _, c := range edges {
				for _, d := range edges {
					sameAsRange(t, []byte{a, b, c, d, 'x'})
				}
			}
		}
	}
}

// P1.6, P1.7: the same of texts that nobody thought of.
func FuzzText(f *testing.F) {
	for _, s := range samples() {
		f.Add([]byte(s))
	}
	f.Fuzz(func(t *testing.T, b []byte) {
		sameAsRange(t, b)
		sameLines(t, b)
		samePlaces(t, b)
	})
}

// P1.2: a loop may be left anywhere; then nothing more is handed on.
func TestRunesLeft(t *testing.T) {
	b := []byte("aé\xff\nz")
	all := runes(b)
	for leave := 1; leave <= len(all); leave++ {
		var got []placed
		text.Runes(b)(func(at int, r rune) bool {
			got = append(got, placed{at, r})
			return len(got) < leave
		})
		if !slices.Equal(got, all[:leave]) {
			t.Errorf("left behind %d: %v", leave, got)
		}
	}
}

// P1.2: one iterator, gone through twice, after being left, and inside itself.
func TestRunesAgain(t *testing.T) {
	b := []byte("aé\xffz")
	all := runes(b)
	it := text.Runes(b)
	for range it {
		break
	}
	for range 2 {
		var outer []placed
		for at, r := range it {
			outer = append(outer, placed{at, r})
			var inner []placed
			for at, r := range it {
				inner = append(inner, placed{at, r})
			}
			if !slices.Equal(inner, all) {
				t.Errorf("inside: %v", inner)
			}
		}
		if !slices.Equal(outer, all) {
			t.Errorf("outside: %v", outer)
		}
	}
}
