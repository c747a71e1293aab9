package kinds_test

import (
	"fmt"
	"reflect"
	"strings"
	"testing"

	"shuck/api"
	"shuck/kinds"
	"shuck/lex"
	"shuck/text"
)

// ofEachKind is a text of each kind that Find takes, and more of those that may look in several ways.
var ofEachKind = []string{
	"any", "unknown", "never", "void", "undefined", "null", "number", "string", "true", "false",
	"0", "7", "-7", `""`, `"a b"`, "number[]", "number[][]", "{}", "{a: number}", "{a: number; b?: string}",
	"() => void", "(number) => void", "(number, string?) => void", "(number?, string?) => void",
	"I#7", "I#7<number>", "I#7<number, string>", "T'7", "E@7", "E@7.A", "class C#7", "enum E#7", "namespace N#7",
}

// P8.1, P8.3: the ten are there from the beginning, and nothing else.
func TestTheTen(t *testing.T) {
	a := kinds.New()
	if a.Len() != 10 {
		t.Fatal(a.Len())
	}
	for id, word := range strings.Fields("any unknown never void undefined null number string true false") {
		x, e := a.At(id)
		if e != api.OK || x.Kind != id+1 || x.Num != 0 || x.Text != "" || len(x.Parts)+len(x.Names)+len(x.Marks) != 0 {
			t.Error(id, x, e)
		}
		if s := a.Text(id); s != word {
			t.Errorf("%d: %s, not %s", id, s, word)
		}
		if n, e := a.Find(api.Type{Kind: id + 1}); n != id || e != api.OK {
			t.Errorf("%s: %d, %v", word, n, e)
		}
	}
	if a.Len() != 10 {
		t.Error(a.Len())
	}
}

// P8.1, P8.3: of each kind a type is found, told and texted; found again, it is the same one.
func TestEachKind(t *testing.T) {
	p := begin(t)
	for _, s := range ofEachKind {
		want := p.typeOf(of(s))
		n, e := p.find(want)
		p.is("Find "+s, n, e, of(s))
		if text := p.a.Text(n); text != s {
			t.Errorf("%s, not %s", text, s)
		}
		if x, e := p.a.At(n); e != api.OK || !sameType(x, want) {
			t.Errorf("%s: %v, %v, not %v", s, x, e, want)
		}
		if again, e := p.find(want); again != n || e != api.OK {
			t.Errorf("%s: %d, %v, not %d", s, again, e, n)
		}
	}
}

// sameType tells whether types are one, an empty list being a nil one.
func sameType(x, y api.Type) bool {
	return reflect.DeepEqual(spared1(x), spared1(y))
}

// P8.1: a number is how many types were laid ahead.
func TestNumbersInOrder(t *testing.T) {
	p := begin(t)
	for i := range 50 {
		if n, e := p.find(api.Type{Kind: api.KNumIs, Num: 3 * i}); n != 10+2*i || e != api.OK {
			t.Error(i, n, e)
		}
		if n, e := p.find(api.Type{Kind: api.KArray, Parts: []int{10 + 2*i}}); n != 11+2*i || e != api.OK {
			t.Error(i, n, e)
		}
	}
	if p.a.Len() != 110 {
		t.Error(p.a.Len())
	}
}

// P8.1: a nil list is an empty one.
func TestEmptyLists(t *testing.T) {
	p := begin(t)
	for _, x := range []api.Type{{Kind: api.KNumber}, {Kind: api.KObject}, {Kind: api.KRef, Text: "I"}, {Kind: api.KFunc, Parts: []int{3}}, {Kind: api.KVar, Text: "T"}} {
		n, e := p.find(x)
		if len(x.Parts) == 0 {
			x.Parts = []int{}
		}
		x.Names, x.Marks = []string{}, []bool{}
		if again, e2 := p.find(x); again != n || e != api.OK || e2 != api.OK {
			t.Errorf("%v: %d, %v, then %d, %v", x, n, e, again, e2)
		}
	}
}

// P8.1: two types with one text are one: of a KCase's node the text says nothing, and the first one stays.
func TestOneText(t *testing.T) {
	p := begin(t)
	e7, e8 := p.id("E@7"), p.id("E@8")
	one, e := p.find(api.Type{Kind: api.KCase, Num: 5, Text: "A", Parts: []int{e7}})
	p.is("E.A", one, e, of("E@7.A"))
	n, e := p.find(api.Type{Kind: api.KCase, Num: 6, Text: "A", Parts: []int{e7}})
	if n != one || e != api.OK {
		t.Errorf("%d, %v, not %d", n, e, one)
	}
	if x, _ := p.a.At(one); x.Num != 5 {
		t.Error(x)
	}
	for _, x := range []api.Type{{Kind: api.KCase, Num: 5, Text: "B", Parts: []int{e7}}, {Kind: api.KCase, Num: 5, Text: "A", Parts: []int{e8}}} {
		if n, e := p.find(x); n == one || e != api.OK {
			t.Errorf("%v: %d, %v", x, n, e)
		}
	}
}

// P8.1: whatever differs in the text is another type.
func TestOtherTexts(t *testing.T) {
	p := begin(t)
	l := append([]string{
		"T'8", "U'7", "E@8", "F@7", "E@7.B", "E@8.A", "I#8", "J#7", "class C#8", "class D#7", "enum E#8", "enum F#7", "namespace N#8", "namespace M#7",
		"C#7", "E#7", "N#7", "T#7", "any#7", "number#7", "number'7", `"7"`, `"any"`, `"-7"`, "1", "any[]", "{a?: number}", "{b: number}", "{a: string}", "{a: {a: number}}",
		"(number?) => void", "(string) => void", "(number) => number", "() => () => void", "(() => void) => void", "((() => void)?) => void", "I#7<string, number>", "I#7<I#7<number>>", "I#7<number>[]", "I#7<number[]>",
	}, ofEachKind...)
	ids := map[int]string{}
	for _, s := range l {
		n := p.id(s)
		if was, ok := ids[n]; ok {
			t.Errorf("%s is %s", s, was)
		}
		ids[n] = s
	}
}

// fields is the ways in which a type may have something more.
var fields = map[string]func(x *api.Type){
	"Num":   func(x *api.Type) { x.Num = 1 },
	"Text":  func(x *api.Type) { x.Text = "a" },
	"Parts": func(x *api.Type) { x.Parts = []int{6} },
	"Names": func(x *api.Type) { x.Names = []string{"a"} },
	"Marks": func(x *api.Type) { x.Marks = []bool{false} },
}

// P8.1: a type that has something that its kind has not, of every kind; what a kind has it may have.
func TestNothingMore(t *testing.T) {
	has := map[int]string{
		api.KNumIs: "Num", api.KStrIs: "Text", api.KArray: "Parts", api.KObject: "Names Parts Marks", api.KFunc: "Parts Marks",
		api.KRef: "Num Text Parts", api.KVar: "Num Text", api.KEnum: "Num Text", api.KCase: "Num Text Parts",
		api.KClass: "Num Text", api.KCases: "Num Text", api.KSpace: "Num Text",
	}
	for _, s := range ofEachKind {
		p := begin(t)
		good := p.typeOf(of(s))
		for field, more := range fields {
			x := clone(good)
			more(&x)
			if strings.Contains(has[x.Kind], field) {
				continue
			}
			n, e := p.find(x)
			p.refused(s+" with "+field, n, e, api.ErrArg)
		}
		n, e := p.find(good)
		p.is(s, n, e, of(s))
	}
}

// P8.1: what is no kind, and KUnion, which Union makes.
func TestNoKind(t *testing.T) {
	p := begin(t)
	for _, kind := range []int{0, -1, api.KUnion, api.KSpace + 1, 99, 1 << 62, -1 << 63} {
		for _, x := range []api.Type{{}, {Parts: []int{6}}, {Parts: []int{6, 7}}, {Num: 1, Text: "a"}} {
			x.Kind = kind
			n, e := p.find(x)
			p.refused("a kind that is none", n, e, api.ErrArg)
		}
	}
	p.id("number | string")
	n, e := p.find(api.Type{Kind: api.KUnion, Parts: []int{6, 7}})
	p.refused("a union that is there", n, e, api.ErrArg)
}

// P8.1: KNumIs at its bounds and one beyond each.
func TestNumberBounds(t *testing.T) {
	p := begin(t)
	for n, want := range map[int]string{api.MaxNumber: "9007199254740991", -api.MaxNumber: "-9007199254740991", 0: "0", -1: "-1"} {
		id, e := p.find(api.Type{Kind: api.KNumIs, Num: n})
		if s := p.a.Text(id); s != want || e != api.OK {
			t.Errorf("%d: %s, %v", n, s, e)
		}
	}
	for _, n := range []int{api.MaxNumber + 1, -api.MaxNumber - 1, 1 << 62, -1 << 63} {
		id, e := p.find(api.Type{Kind: api.KNumIs, Num: n})
		p.refused("too far", id, e, api.ErrArg)
	}
}

// P8.1: a KStrIs whose Text is not good; one that is has its Quote.
func TestStringTexts(t *testing.T) {
	p := begin(t)
	for _, s := range []string{"\xff", "a\xc3", "\xc0\x80", "\xed\xa0\x80", "\xf4\x90\x80\x80", "é\x80", "\xef\xbf"} {
		n, e := p.find(api.Type{Kind: api.KStrIs, Text: s})
		p.refused("a bad text", n, e, api.ErrArg)
	}
	for _, s := range []string{"", "a", "é", "\uFFFD", "\U0010FFFF", "\x00\x7f\n\r\t\\\"'", "number", strings.Repeat("ab", 1000)} {
		n, e := p.find(api.Type{Kind: api.KStrIs, Text: s})
		if got := p.a.Text(n); got != text.Quote(s) || e != api.OK {
			t.Errorf("%q: %s, %v", s, got, e)
		}
		if x, e := p.a.At(n); x.Text != s || e != api.OK {
			t.Errorf("%q: %v, %v", s, x, e)
		}
	}
	for c := range 256 {
		for d := range 256 {
			s := string([]byte{'a', byte(c), byte(d)})
			_, _, ok := text.Decode([]byte(s), 1)
			if ok && c < 0x80 {
				_, _, ok = text.Decode([]byte(s), 2)
			} else if ok {
				_, w, _ := text.Decode([]byte(s), 1)
				ok = w == 2
			}
			if _, e := p.a.Find(api.Type{Kind: api.KStrIs, Text: s}); (e == api.OK) != ok {
				t.Errorf("%x: %v", s, e)
			}
		}
	}
}

// P8.1: Parts that are no numbers, of each kind that has Parts.
func TestNoParts(t *testing.T) {
	p := begin(t)
	for _, id := range []int{-1, 10, 99, 1 << 62, -1 << 63} {
		for _, x := range []api.Type{
			{Kind: api.KArray, Parts: []int{id}},
			{Kind: api.KObject, Parts: []int{id}, Names: []string{"a"}, Marks: []bool{false}},
			{Kind: api.KObject, Parts: []int{1, id}, Names: []string{"a", "b"}, Marks: []bool{false, true}},
			{Kind: api.KFunc, Parts: []int{id}},
			{Kind: api.KFunc, Parts: []int{id, 3}, Marks: []bool{true}},
			{Kind: api.KFunc, Parts: []int{3, id}, Marks: []bool{true}},
			{Kind: api.KRef, Text: "I", Parts: []int{id}},
			{Kind: api.KRef, Text: "I", Parts: []int{6, 7, id}},
			{Kind: api.KCase, Text: "A", Parts: []int{id}},
		} {
			n, e := p.find(x)
			p.refused("no part", n, e, api.ErrArg)
		}
	}
}

// P8.1: how many Parts, Names and Marks there may be, and what these are.
func TestWrongLists(t *testing.T) {
	p := begin(t)
	enum := p.id("E@7")
	for _, x := range []api.Type{
		{Kind: api.KArray},
		{Kind: api.KArray, Parts: []int{6, 6}},
		{Kind: api.KFunc},
		{Kind: api.KFunc, Marks: []bool{false}},
		{Kind: api.KFunc, Parts: []int{6, 3}},
		{Kind: api.KFunc, Parts: []int{3}, Marks: []bool{false}},
		{Kind: api.KFunc, Parts: []int{6, 7, 3}, Marks: []bool{false}},
		{Kind: api.KFunc, Parts: []int{6, 7, 3}, Marks: []bool{false, false, false}},
		{Kind: api.KFunc, Parts: []int{6, 7, 3}, Marks: []bool{true, false}},
		{Kind: api.KFunc, Parts: []int{6, 6, 6, 6, 3}, Marks: []bool{false, true, true, false}},
		{Kind: api.KFunc, Parts: []int{6, 6, 6, 6, 3}, Marks: []bool{false, true, false, true}},
		{Kind: api.KObject, Names: []string{"a"}},
		{Kind: api.KObject, Parts: []int{6}},
		{Kind: api.KObject, Marks: []bool{true}},
		{Kind: api.KObject, Names: []string{"a"}, Parts: []int{6}},
		{Kind: api.KObject, Names: []string{"a"}, Marks: []bool{true}},
		{Kind: api.KObject, Parts: []int{6}, Marks: []bool{true}},
		{Kind: api.KObject, Names: []string{"a", "b"}, Parts: []int{6}, Marks: []bool{false}},
		{Kind: api.KObject, Names: []string{"a", "b"}, Parts: []int{6, 6}, Marks: []bool{false}},
		{Kind: api.KObject, Names: []string{"a"}, Parts: []int{6, 6}, Marks: []bool{false, false}},
		{Kind: api.KCase, Text: "A"},
		{Kind: api.KCase, Text: "A", Parts: []int{enum, enum}},
		{Kind: api.KCase, Text: "A", Parts: []int{6}},
	} {
		n, e := p.find(x)
		p.refused(fmt.Sprint(x), n, e, api.ErrArg)
	}
}

// P8.1: the Names of an object are names and rise, each once.
func TestObjectNames(t *testing.T) {
	p := begin(t)
	tried := func(names ...string) (int, api.Errno) {
		return p.find(api.Type{Kind: api.KObject, Names: names, Parts: make([]int, len(names)), Marks: make([]bool, len(names))})
	}
	for _, names := range [][]string{{"b", "a"}, {"a", "a"}, {"a", "b", "b"}, {"a", "c", "b"}, {"a", "B"}, {"_", "Z"}, {"aa", "a"}, {"a", ""}, {""}, {"1"}, {"a", "b c"}, {"a", "b", "class"}, {"é"}} {
		n, e := tried(names...)
		p.refused(strings.Join(names, " "), n, e, api.ErrArg)
	}
	for _, names := range [][]string{{}, {"a"}, {"a", "aa", "b"}, {"$", "A", "Z", "_", "a"}, {"a", "a0", "aA", "aa"}, {"clas", "classes"}} {
		if n, e := tried(names...); e != api.OK || len(p.known[n].is.Names) != len(names) {
			t.Error(names, n, e)
		}
	}
}

const reservedWords = "break catch class const constructor continue else enum export extends false finally for function if implements in interface let namespace new null of public readonly return super this throw true try type typeof undefined while as"

// P8.1: Num 0 or above and Text a name, of each kind that is declared.
func TestDeclared(t *testing.T) {
	p := begin(t)
	enum := p.id("E@7")
	for _, kind := range []int{api.KRef, api.KVar, api.KEnum, api.KCase, api.KClass, api.KCases, api.KSpace} {
		tried := func(num int, name string) (int, api.Errno) {
			x := api.Type{Kind: kind, Num: num, Text: name}
			if kind == api.KCase {
				x.Parts = []int{enum}
			}
			return p.find(x)
		}
		for _, num := range []int{-1, -2, -1 << 63} {
			n, e := tried(num, "a")
			p.refused("below nought", n, e, api.ErrArg)
		}
		for _, name := range append([]string{"", " ", "a ", " a", "1a", "a.b", "a-b", "é", "aé", "a\x00", "\xff", "a\n", "//", "/**/a", `"a"`}, strings.Fields(reservedWords)...) {
			n, e := tried(0, name)
			p.refused(name, n, e, api.ErrArg)
		}
		for num, name := range map[int]string{0: "a", 7: "_", 1<<63 - 1: "$9", 1: "any", 2: "number", 3: "Class", 4: "constructors", 5: strings.Repeat("long", api.MaxBytes/2)} {
			if n, e := tried(num, name); e != api.OK || p.known[n].is.Text != name || p.known[n].is.Num != num {
				t.Error(kind, num, len(name), n, e)
			}
		}
		n, e := tried(5, strings.Repeat("long", api.MaxBytes/2)+"-")
		p.refused("no name, and long", n, e, api.ErrArg)
	}
}

// P8.1: names are chapter 2's: what lex takes as one token that is a TokName.
func TestNamesOfLex(t *testing.T) {
	a := kinds.New()
	for _, s := range append(strings.Fields(reservedWords), "a", "A9_$", "9", "a b", "ofx", "o", "of ", "") {
		for _, s := range []string{s, s + "1", "x" + s, s + " ", s + "\n", strings.ToUpper(s)} {
			l, _, e := lex.Tokens([]byte(s))
			want := e == api.OK && len(l) == 2 && l[0].Kind == api.TokName && l[0].Text == s
			if _, e := a.Find(api.Type{Kind: api.KVar, Text: s}); (e == api.OK) != want {
				t.Errorf("%q: %v", s, e)
			}
		}
	}
}

// P8.1: KCase is of a KEnum, not of what is like one.
func TestCaseOfEnum(t *testing.T) {
	p := begin(t)
	for _, s := range append(ofEachKind, "E@7 | E@8", "E@7[]") {
		n, e := p.find(api.Type{Kind: api.KCase, Num: 1, Text: "A", Parts: []int{p.id(s)}})
		if s == "E@7" {
			p.is(s, n, e, of("E@7.A"))
		} else {
			p.refused(s, n, e, api.ErrArg)
		}
	}
}
