package heap_test

import (
	"math"
	"testing"

	"shuck/api"
)

// odd is a value that is handed in, and what it counts as.
type odd struct{ v, counts api.Value }

// odds are values as chapters 14 and 15 take them, where there are more than 4 things and fewer than 50.
func odds() []odd {
	top := num(api.MaxNumber)
	low := num(-api.MaxNumber)
	return []odd{
		{api.Value{Kind: 6, Num: 1, Text: "a"}, undefined()}, {api.Value{Kind: -1, Num: 1, Text: "length"}, undefined()}, {api.Value{Kind: math.MaxInt}, undefined()}, {api.Value{Kind: math.MinInt, Text: "a"}, undefined()}, {api.Value{Num: 1, Text: "a"}, undefined()},
		{api.Value{Kind: api.VNull, Num: 1, Text: "a"}, null()},
		{api.Value{Kind: api.VBool, Num: 2}, yes()}, {api.Value{Kind: api.VBool, Num: -1, Text: "a"}, yes()}, {api.Value{Kind: api.VBool, Num: math.MinInt}, yes()}, {api.Value{Kind: api.VBool, Text: "true"}, no()},
		{num(api.MaxNumber + 1), top}, {num(math.MaxInt), top}, {num(-api.MaxNumber - 1), low}, {num(math.MinInt), low}, {api.Value{Kind: api.VNumber, Num: 1, Text: "length"}, num(1)}, {api.Value{Kind: api.VNumber, Text: "a"}, num(0)},
		{api.Value{Kind: api.VString, Num: 1, Text: "length"}, words("length")}, {api.Value{Kind: api.VString, Num: 2}, words("")}, {api.Value{Kind: api.VString, Num: -1, Text: "aé\xff"}, words("aé\xff")},
		{api.Value{Kind: api.VRef, Num: 1, Text: "length"}, ref(1)}, {api.Value{Kind: api.VRef, Num: 2, Text: "a"}, ref(2)}, {api.Value{Kind: api.VRef, Text: "a"}, ref(0)},
		{ref(-1), undefined()}, {ref(50), undefined()}, {ref(1 << 32), undefined()}, {ref(math.MaxInt), undefined()}, {ref(math.MinInt), undefined()}, {api.Value{Kind: api.VRef, Num: 99, Text: "a"}, undefined()},
	}
}

// P15.3, P15.6, P15.7: what is set, laid or pushed is what it counts as, told by Get, At and Show.
func TestOddIsLaid(t *testing.T) {
	for _, x := range odds() {
		b := protos(t)
		l := b.list(x.v, num(0))
		b.gives(put(l, num(1), x.v), done())
		b.gives(put(l, num(2), x.v), done())
		for i := range 3 {
			b.gives(at(l, num(i)), told(x.counts))
		}
		o := b.thing(api.CObject, -1, member{"a", x.v}, member{"b", num(0)})
		b.gives(set(o, "b", x.v), done())
		b.gives(put(o, words("c"), x.v), done())
		for _, key := range []string{"a", "b", "c"} {
			b.gives(get(o, key), told(x.counts))
			b.gives(at(o, words(key)), told(x.counts))
		}
		same := b.list(x.counts, x.counts, x.counts)
		b.gives(show(l), b.do(show(same)))
	}
}

// P15.2 to P15.6, P15.8, P15.9: whatever is asked of a value, is asked of what it counts as.
func TestOddIsAsked(t *testing.T) {
	for _, x := range odds() {
		b := protos(t)
		b.gives(push(1, words("é")), count(1))
		b.gives(typeOf(x.v), b.do(typeOf(x.counts)))
		b.gives(show(x.v), b.do(show(x.counts)))
		for _, key := range []string{"length", "x", "", "a"} {
			b.gives(get(x.v, key), b.do(get(x.counts, key)))
			b.gives(has(x.v, key), b.do(has(x.counts, key)))
		}
		for _, index := range append(odds(), odd{num(0), num(0)}) {
			b.gives(at(x.v, index.v), b.do(at(x.counts, index.counts)))
		}
	}
}

// P15.6, P15.3: what is put into an odd value, at an odd index, is put into what it counts as, at what that counts as.
func TestOddIsPut(t *testing.T) {
	for _, x := range odds() {
		for _, index := range append(odds(), odd{num(0), num(0)}) {
			b, plain := protos(t), protos(t)
			for _, one := range []*bench{b, plain} {
				one.gives(push(1, words("a")), count(1))
			}
			b.gives(put(x.v, index.v, words("b")), plain.do(put(x.counts, index.counts, words("b"))))
			b.gives(set(x.v, "k", words("b")), plain.do(set(x.counts, "k", words("b"))))
			for n := range 4 {
				b.gives(show(ref(n)), plain.do(show(ref(n))))
			}
		}
	}
}

// P15.3: what stood for no thing when it was set is undefined, and stays so when there is a thing of that number.
func TestRefOfLaterThing(t *testing.T) {
	b := begin(t, 30)
	o, l := b.lay(api.CObject, -1), b.lay(api.CArray, -1)
	for _, n := range []int{2, 3} {
		b.gives(set(o, "a", ref(n)), done())
		b.gives(push(l.Num, ref(n)), count(n-1))
		b.gives(mk(api.CFunction, -1), count(n))
		b.gives(get(o, "a"), told(undefined()))
		b.gives(at(l, num(n-2)), told(undefined()))
		b.gives(set(o, "a", ref(n)), done())
		b.gives(get(o, "a"), told(ref(n)))
	}
	b.gives(show(l), says("[undefined, undefined]"))
}
