package heap_test

import (
	"testing"

	"shuck/api"
)

// P15.1 to P15.9: the examples of the chapter, as they stand there.
func TestExamples(t *testing.T) {
	b := begin(t, 2)
	b.gives(mk(api.CObject, -1), count(0))
	b.gives(set(ref(0), "a", num(1)), done())
	b.gives(set(ref(0), "b", num(2)), full())
	b.gives(set(ref(0), "a", num(3)), done())
	b.gives(used(), count(2))

	b = begin(t, 99)
	p := b.thing(api.CObject, -1, member{"x", num(1)})
	q := b.lay(api.CObject, p.Num)
	b.gives(get(q, "x"), told(num(1)))
	b.gives(set(q, "x", num(2)), done())
	b.gives(get(p, "x"), told(num(1)))

	o := b.thing(api.CObject, -1, member{"k", null()})
	b.gives(show(b.list(num(1), words("a"), o)), says(`[1, "a", {k: null}]`))

	b.gives(get(words("aé"), "length"), told(num(2)))
	b.gives(at(words("aé"), num(1)), told(words("é")))
	five := b.list(num(5))
	b.gives(at(five, num(1)), told(undefined()))
	b.gives(put(five, num(1), num(6)), done())
	b.gives(put(five, num(3), num(6)), throws(noIndex))
}
