package heap_test

import (
	"strings"
	"testing"

	"shuck/api"
)

// plains are values that are neither things nor nothing, texts among them.
func plains() []api.Value {
	return []api.Value{no(), yes(), num(0), num(5), num(-5), num(api.MaxNumber), words(""), words("a"), words("length"), words("é\xff")}
}

// nothings are values that count as undefined or are null, where there are fewer than 50 things.
func nothings() []api.Value {
	return []api.Value{undefined(), null(), {Kind: 6}, {Kind: -1, Text: "a"}, ref(-1), ref(50), ref(1 << 40), ref(-1 << 63), ref(1<<63 - 1)}
}

// someKeys are keys of each sort: empty, with bytes that are no rune, names of what things have elsewhere.
func someKeys() []string {
	return []string{"", "a", "b", "length", "Length", "length ", "0", "-1", "undefined", "push", "__proto__", "constructor", "é", "\xff", "\xfe", "\uFFFD", "\x00", "a\x00", "a: 1, b", strings.Repeat("k", api.MaxBytes+1)}
}

// P15.2: undefined and null throw, whatever the key; so what counts as undefined does.
func TestGetOfNothing(t *testing.T) {
	b := protos(t)
	for _, v := range nothings() {
		for _, key := range someKeys() {
			b.gives(get(v, key), throws(noMembers))
		}
	}
}

// P15.2: of a text there is its length alone; of numbers and booleans nothing.
func TestGetOfPlain(t *testing.T) {
	b := protos(t)
	for _, v := range plains() {
		for _, key := range someKeys() {
			if v.Kind != api.VString || key != "length" {
				b.gives(get(v, key), told(undefined()))
			}
		}
	}
	for s, n := range map[string]int{
		"": 0, "a": 1, "ab": 2, "é": 1, "aé": 2, "€": 1, "\U0001f600": 1, "a€é\U0001f600b": 5, "e\u0301": 2, "\uFFFD": 1, "\uFFFD\uFFFD": 2, "\x00": 1, "\n\r\n": 3,
		"\xff": 1, "\xff\xff": 2, "\xc3": 1, "\xa9\xc3": 2, "\xe2\x82": 2, "\xe2\x82a": 3, "\xed\xa0\x80": 3, "\xc0\x80": 2, "\xf4\x90\x80\x80": 4, "\xf0\x9f\x98": 3, "\xf8\x88\x80\x80\x80": 5,
	} {
		b.gives(get(words(s), "length"), told(num(n)))
	}
	long := strings.Repeat("aé", api.MaxBytes)
	b.gives(get(words(long), "length"), told(num(2*api.MaxBytes)))
}

// P15.2, P15.4: an array has its length, and nothing else.
func TestMembersOfArray(t *testing.T) {
	b := begin(t, 30)
	l := b.lay(api.CArray, -1)
	for n := range 4 {
		for _, key := range someKeys() {
			if key == "length" {
				b.gives(get(l, key), told(num(n)))
				b.gives(has(l, key), is(true))
				continue
			}
			b.gives(get(l, key), told(undefined()))
			b.gives(has(l, key), is(false))
		}
		b.gives(push(l.Num, words("a")), count(n+1))
	}
}

// P15.2 to P15.4: members of whatever key, of each kind of thing that may have them.
func TestMembers(t *testing.T) {
	for _, kind := range []int{api.CObject, api.CFunction, api.CClass} {
		b := begin(t, 200)
		o := b.lay(kind, -1)
		for i, key := range someKeys() {
			b.gives(has(o, key), is(false))
			b.gives(get(o, key), told(undefined()))
			b.gives(set(o, key, num(i)), done())
			b.gives(has(o, key), is(true))
			b.gives(get(o, key), told(num(i)))
			b.gives(used(), count(i+2))
		}
		for i, key := range someKeys() {
			b.gives(set(o, key, num(-i)), done())
			b.gives(get(o, key), told(num(-i)))
		}
		b.gives(used(), count(1+len(someKeys())))
	}
}

// P15.3: values of each kind are set, and told as they are; setting again takes the place of what was there.
func TestSetValues(t *testing.T) {
	b := begin(t, 100)
	o, l := b.lay(api.CObject, -1), b.lay(api.CArray, -1)
	all := append(plains(), undefined(), null(), o, l)
	for _, v := range all {
		b.gives(set(o, "a", v), done())
		b.gives(get(o, "a"), told(v))
		b.gives(has(o, "a"), is(true))
	}
	b.gives(used(), count(3))
}

// P15.4: a member that is set to undefined is one.
func TestUndefinedMember(t *testing.T) {
	b := begin(t, 30)
	p := b.thing(api.CObject, -1, member{"a", num(1)}, member{"b", num(1)})
	o := b.lay(api.CObject, p.Num)
	b.gives(set(o, "a", undefined()), done())
	b.gives(has(o, "a"), is(true))
	b.gives(get(o, "a"), told(undefined())) // the nearest one tells, though there is one behind it
	b.gives(get(o, "b"), told(num(1)))
	b.gives(used(), count(5))
	b.gives(set(o, "a", undefined()), done())
	b.gives(used(), count(5))
	b.gives(show(o), says("{a: undefined}"))
}

// P15.3: what has no members throws, and changes nothing: an array, its length too; a text; what is no thing.
func TestSetThrows(t *testing.T) {
	b := begin(t, 30)
	l := b.list(num(1))
	for _, v := range append(append(nothings(), plains()...), l) {
		for _, key := range someKeys() {
			b.gives(set(v, key, num(7)), throws(noMembers))
		}
	}
	b.gives(show(l), says("[1]"))
	b.gives(used(), count(2))
}

// P15.4: what is no thing throws, a text too.
func TestHasThrows(t *testing.T) {
	b := protos(t)
	for _, v := range append(nothings(), plains()...) {
		for _, key := range someKeys() {
			b.gives(has(v, key), throws(noIn))
		}
	}
}

// P15.2, P15.4: the length of an object, a function, a class is a member like others.
func TestLengthOfOthers(t *testing.T) {
	for _, kind := range []int{api.CObject, api.CFunction, api.CClass} {
		b := begin(t, 10)
		p := b.thing(kind, -1, member{"a", num(1)})
		b.gives(get(p, "length"), told(undefined()))
		b.gives(has(p, "length"), is(false))
		b.gives(set(p, "length", words("long")), done())
		b.gives(get(p, "length"), told(words("long")))
		b.gives(has(p, "length"), is(true))
		b.gives(lenOf(p.Num), count(0))
	}
}
