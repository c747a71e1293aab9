package machine_test

import (
	"testing"

	"shuck/api"
	"shuck/parse"
)

// bytesMaker makes programs by bytes; where there are none left, it chooses the first of all.
func bytesMaker(l []byte) *maker {
	return &maker{choose: func(n int) int {
		if len(l) == 0 {
			return 0
		}
		x := int(l[0])
		l = l[1:]
		return x % n
	}}
}

// fuzzMade holds whatever program that can be made against the slow reading.
func fuzzMade(f *testing.F, typed bool) {
	m := newMaker(7)
	for range 30 {
		var l []byte
		for range m.choose(600) {
			l = append(l, byte(m.choose(256)))
		}
		f.Add(l, "a\xff", uint16(m.choose(3000)), uint8(m.choose(256)))
	}
	f.Fuzz(func(t *testing.T, l []byte, input string, fuel uint16, cells uint8) {
		m := bytesMaker(l)
		m.typed = typed
		text := m.program(len(l) / 2)
		x, at, e := parse.Program([]byte(text))
		if e != api.OK {
			t.Fatalf("%s: %d, %v", text, at, e)
		}
		agrees(t, text, x, []string{input, "b"}, int(fuel), int(cells))
	})
}

// P16.1, P17.3: whatever plain program.
func FuzzPlain(f *testing.F) { fuzzMade(f, false) }

// P17.1, P17.2: whatever typed program.
func FuzzTyped(f *testing.F) { fuzzMade(f, true) }

// P16.1, P17.1: whatever text, if it is a program.
func FuzzText(f *testing.F) {
	for text := range allTellers() {
		f.Add(text, uint16(500), uint8(60))
	}
	for _, m := range []*maker{newMaker(8), newTypedMaker(8)} {
		for range 30 {
			f.Add(m.program(60), uint16(m.choose(3000)), uint8(m.choose(256)))
		}
	}
	f.Fuzz(func(t *testing.T, text string, fuel uint16, cells uint8) {
		x, _, e := parse.Program([]byte(text))
		if e != api.OK {
			return
		}
		agrees(t, text, x, []string{"a", "b"}, int(fuel), int(cells))
	})
}
