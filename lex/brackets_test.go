package lex_test

import (
	"math"
	"strings"
	"testing"

	"shuck/api"
	"shuck/lex"
)

// P2.3: the signs that are split.
func TestSplit(t *testing.T) {
	for _, x := range []struct{ sign, rest string }{{">=", "="}, {">>", ">"}, {">>>", ">>"}} {
		for _, at := range []int{0, 1, 4, 70000} {
			s := api.Token{Kind: api.TokSign, Text: x.sign, At: at, End: at + len(x.sign)}
			want := api.Token{Kind: api.TokSign, Text: x.rest, At: at + 1, End: at + len(x.sign)}
			if got, ok := lex.Split(s); !ok || got != want {
				t.Errorf("%v: %v, %v", s, got, ok)
			}
		}
	}
	first, _ := lex.Split(api.Token{Kind: api.TokSign, Text: ">>>", At: 7, End: 10})
	second, ok := lex.Split(first)
	if want := (api.Token{Kind: api.TokSign, Text: ">", At: 9, End: 10}); !ok || second != want {
		t.Errorf("twice: %v, %v", second, ok)
	}
	if third, ok := lex.Split(second); ok || third != (api.Token{}) {
		t.Errorf("thrice: %v, %v", third, ok)
	}
}

// P2.3: what is not split answers a zero token.
func TestSplitNothing(t *testing.T) {
	for _, s := range strings.Fields("{ } ( ) [ ] . , ; : ? => = += -= *= %= === !== + - * % ! ~ < <= > << && & || | ^") {
		if got, ok := lex.Split(api.Token{Kind: api.TokSign, Text: s, At: 4, End: 4 + len(s)}); ok || got != (api.Token{}) {
			t.Errorf("%s: %v, %v", s, got, ok)
		}
	}
	for kind := -1; kind <= 12; kind++ {
		if got, ok := lex.Split(api.Token{Kind: kind, Text: ">>", At: 4, End: 6}); ok != (kind == api.TokSign) || !ok && got != (api.Token{}) {
			t.Errorf("kind %d: %v, %v", kind, got, ok)
		}
	}
	if got, ok := lex.Split(api.Token{Kind: api.TokSign}); ok || got != (api.Token{}) {
		t.Errorf("no text: %v, %v", got, ok)
	}
	if got, ok := lex.Split(api.Token{}); ok || got != (api.Token{}) {
		t.Errorf("nothing: %v, %v", got, ok)
	}
}

// P2.4: the greatest count, and the first token behind which it is above most.
func TestDepth(t *testing.T) {
	for _, x := range []struct {
		s           string
		most        int
		depth, from int
	}{
		{"", 0, 0, -1},
		{"", -1, 0, 0},
		{"a", 0, 0, -1},
		{"a b", -1, 0, 0},
		{"({[]})", 2, 3, 2},
		{"({[]})", 3, 3, -1},
		{"({[]})", 1, 3, 1},
		{"({[]})", 0, 3, 0},
		{"({[]})", -1, 3, 0},
		{"a({[]})", 0, 3, 1},
		{"()()()", 0, 1, 0},
		{"()()()", 1, 1, -1},
		{"a()b(())", 1, 2, 5},
		{"(()) ((()))", 2, 3, 6},
		{")(", 0, 1, 1},
		{")))(", 0, 1, 3},
		{")))(", -1, 1, 0},
		{")]}", 0, 0, -1},
		{"())(()", 1, 2, 4},
		{"(]{)[}", 0, 1, 0},
		{"(()((", 2, 3, 4},
		{"([]([", 2, 3, 4},
		{"({}(`${a", 2, 3, 4},
		{"(`${}`((", 2, 3, 4},
		{"((((", 2, 4, 2},
		{"`${a}`", 0, 1, 0},
		{"`${`${a}`}`", 1, 2, 1},
		{"`${a}b${c}`", 1, 1, -1},
		{"`${a}b${c}d${(e)}`", 1, 2, 5},
		{"`${{}}`", 1, 2, 1},
		{"`${a}``${a}`", 1, 1, -1},
		{"'(' `[` '{'", 0, 0, -1},
		{"<<>>", 0, 0, -1},
		{"(", math.MaxInt, 1, -1},
		{"a", math.MinInt, 0, 0},
	} {
		l, _, e := lex.Tokens([]byte(x.s))
		if e != api.OK {
			t.Fatalf("%s: %d", x.s, e)
		}
		if depth, from := lex.Depth(l, x.most); depth != x.depth || from != x.from {
			t.Errorf("%s, %d: %d, %d; want %d, %d", x.s, x.most, depth, from, x.depth, x.from)
		}
	}
	for _, most := range []int{math.MinInt, -1, 0, 1, math.MaxInt} {
		for _, l := range [][]api.Token{nil, {}} {
			if depth, from := lex.Depth(l, most); depth != 0 || from != -1 {
				t.Errorf("no tokens, %d: %d, %d", most, depth, from)
			}
		}
	}
}

// P2.4: kinds and texts count together; tokens that no text has are gone through all the same.
func TestDepthOfAnyTokens(t *testing.T) {
	for kind := -1; kind <= 12; kind++ {
		for _, text := range []string{"(", "[", "{", ")", "]", "}", "", "((", "${", "<", "`"} {
			turn := 0
			switch {
			case kind == api.TokHead:
				turn = 1
			case kind == api.TokTail:
				turn = -1
			case kind == api.TokSign && (text == "(" || text == "[" || text == "{"):
				turn = 1
			case kind == api.TokSign && (text == ")" || text == "]" || text == "}"):
				turn = -1
			}
			open := api.Token{Kind: api.TokSign, Text: "("}
			l := []api.Token{open, open, {Kind: kind, Text: text, At: -5, End: math.MinInt}, open}
			depth, from := lex.Depth(l, 2+turn)
			if want := max(2, 3+turn); depth != want {
				t.Errorf("kind %d, %q: %d, want %d", kind, text, depth, want)
			}
			want := 3
			if turn < 0 {
				want = 1
			}
			if from != want {
				t.Errorf("kind %d, %q: from %d, want %d", kind, text, from, want)
			}
		}
	}
}
