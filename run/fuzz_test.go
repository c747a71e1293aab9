package run_test

import (
	"testing"

	"shuck/api"
	"shuck/parse"
)

// bytesMaker makes programs by bytes; where there are none left, it chooses the first of all.
func bytesMaker(l []byte) *maker {
	return &maker{choose: func(n int) int {
		if len(l) == 0 {
			return 0
		}
		x := int(l[0])
		l = l[1:]
		return x % n
	}}
}

// P16.1: whatever program, against the slow reading.
func FuzzRun(f *testing.F) {
	m := newMaker(7)
	for range 30 {
		var l []byte
		for range m.choose(600) {
			l = append(l, byte(m.choose(256)))
		}
		f.Add(l, "a\xff", uint16(m.choose(3000)), uint8(m.choose(256)))
	}
	f.Fuzz(func(t *testing.T, l []byte, input string, fuel uint16, cells uint8) {
		text := bytesMaker(l).program(len(l) / 2)
		x, at, e := parse.Program([]byte(text))
		if e != api.OK {
			t.Fatalf("%s: %d, %v", text, at, e)
		}
		agrees(t, text, x, []string{input, "b"}, int(fuel), int(cells))
	})
}

// P16.1: whatever text, if it is a program.
func FuzzText(f *testing.F) {
	for _, d := range tellers() {
		f.Add(d, uint16(500), uint8(60))
	}
	m := newMaker(8)
	for range 30 {
		f.Add(m.program(60), uint16(m.choose(3000)), uint8(m.choose(256)))
	}
	f.Fuzz(func(t *testing.T, text string, fuel uint16, cells uint8) {
		x, _, e := parse.Program([]byte(text))
		if e != api.OK {
			return
		}
		agrees(t, text, x, []string{"a", "b"}, int(fuel), int(cells))
	})
}
