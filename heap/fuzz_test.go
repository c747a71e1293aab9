package heap_test

import "testing"

// bytesMaker makes calls by bytes; where there are none left, it chooses the first of all.
func bytesMaker(l []byte) (m maker, more func() bool) {
	choose := func(n int) int {
		if len(l) == 0 {
			return 0
		}
		x := int(l[0])
		l = l[1:]
		return x % n
	}
	return maker{choose}, func() bool { return len(l) > 0 }
}

// P15.1 to P15.9, P15.11: whatever script, against the slow reading.
func FuzzHeap(f *testing.F) {
	m := newMaker(7)
	for range 30 {
		var l []byte
		for range m.choose(300) {
			l = append(l, byte(m.choose(256)))
		}
		f.Add(l)
	}
	f.Fuzz(func(t *testing.T, l []byte) {
		m, more := bytesMaker(l)
		b := begin(t, m.choose(60))
		for i := 0; more() && i < 60; i++ {
			b.do(m.call(i))
		}
	})
}
