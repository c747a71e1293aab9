package machine_test

import (
	"runtime"
	"slices"
	"strconv"
	"strings"
	"testing"

	"shuck/api"
	"shuck/run"
)

// ran runs what was laid with as much fuel as there may be, and as many cells; it fails, unless it ends so, with these outputs, at so many steps.
func (r *layer) ran(t *testing.T, what string, end, steps int, outputs ...string) {
	t.Helper()
	for _, f := range both() {
		r.ranAs(t, f, what, end, steps, outputs...)
	}
}

func (r *layer) ranAs(t *testing.T, f face, what string, end, steps int, outputs ...string) {
	t.Helper()
	got := f.program(api.Tree{Nodes: r.l}, nil, api.MaxFuel, api.MaxCells)
	if got.err != api.OK || got.End != end || got.Steps != steps && steps >= 0 || !slices.Equal(got.Outputs, outputs) {
		t.Errorf("%s of %s: %+v, not %d %d %q", f.name, what, got.short(), end, steps, short(strings.Join(outputs, "\n")))
	}
}

// W1: expressions as deep as they may be, from outside to inside.
func TestDeepExpressions(t *testing.T) {
	const deep = deepest - 10
	for what, x := range map[string]struct {
		open  func(r *layer)
		steps int // of each
		ends  int // how many nodes that is
		out   string
	}{
		"Unary": {func(r *layer) { r.begin(api.Unary, "-") }, 1, 1, "1"},
		"Array": {func(r *layer) { r.begin(api.Array, "") }, 1, 1, "[[[...]]]"},
		"Object": {func(r *layer) {
			r.begin(api.Object, "")
			r.begin(api.Prop, "a")
		}, 1, 2, "{a: {a: {a: ...}}}"},
		"Binary": {func(r *layer) {
			r.begin(api.Binary, "+")
			r.number(1)
		}, 2, 1, strconv.Itoa(deep + 1)},
		"in &&": {func(r *layer) {
			r.begin(api.Binary, "&&")
			r.leaf(api.True, "")
		}, 2, 1, "1"},
		"Cond": {func(r *layer) {
			r.begin(api.Cond, "")
			r.leaf(api.False, "")
			r.leaf(api.Null, "")
		}, 2, 1, "1"},
		"Template": {func(r *layer) {
			r.begin(api.Template, "")
			r.leaf(api.Str, "")
		}, 1, 1, "1"},
		"Call": {func(r *layer) {
			r.begin(api.Call, "")
			r.name("f")
			r.leaf(api.List, "")
			r.begin(api.List, "")
		}, 3, 2, "1"},
		"print within print": {func(r *layer) {
			r.begin(api.Call, "")
			r.name("input")
			r.leaf(api.List, "")
			r.begin(api.List, "")
		}, 2, 2, "null"},
		"Arrow that is made": {func(r *layer) {
			r.begin(api.Arrow, "")
			r.params()
		}, 0, 1, "function"},
	} {
		r := newLayer()
		r.variable("f", func() {
			r.begin(api.Arrow, "")
			r.params("x")
			r.name("x")
			r.end(1)
		})
		count := deep / x.ends
		r.print(func() {
			depth := len(r.open)
			for range count {
				x.open(r)
			}
			r.number(1)
			for len(r.open) > depth {
				n := r.l[r.open[len(r.open)-1]]
				if n.Kind == api.Template {
					r.leaf(api.Str, "")
				}
				r.end(1)
			}
		})
		steps := 2 + 3 + 1 + x.steps*count
		if what == "Arrow that is made" {
			steps = 2 + 3 + 1
		}
		r.ran(t, what, api.EndDone, steps, x.out)
	}
}

// W1: what stands on the left goes as deep.
func TestDeepOnTheLeft(t *testing.T) {
	const deep = deepest - 10
	for what, x := range map[string]struct {
		kind      int
		text      string
		behind    func(r *layer)
		out       string
		more, end int
	}{
		"Binary": {api.Binary, "+", func(r *layer) { r.number(1) }, strconv.Itoa(deep), 1, api.EndDone},
		"||":     {api.Binary, "||", func(r *layer) { r.leaf(api.False, "") }, "false", 1, api.EndDone},
		"Cond": {api.Cond, "", func(r *layer) {
			r.leaf(api.True, "")
			r.leaf(api.False, "")
		}, "", 1, api.EndDone},
		"Member": {api.Member, "length", func(*layer) {}, "", 0, api.EndDone},
		"Index":  {api.Index, "", func(r *layer) { r.number(0) }, "", 1, api.EndDone},
		"Call":   {api.Call, "", func(r *layer) { r.leaves(2, api.List) }, "", 0, api.EndThrow},
	} {
		r := newLayer()
		r.print(func() {
			for range deep {
				r.begin(x.kind, x.text)
			}
			r.number(0)
			for range deep {
				x.behind(r)
				r.end(1)
			}
		})
		o, e := run.Program(api.Tree{Nodes: r.l}, nil, api.MaxFuel, api.MaxCells)
		steps := 3 + deep + 1 + x.more*deep
		switch what {
		case "Cond":
			x.out = pickAt(deep+1, "true", "false")
			steps = o.Steps
		case "Member", "Index":
			// The first one is undefined: what is asked of that throws, behind its kids.
			x.end = api.EndThrow
			steps = 3 + deep + 1 + 2*x.more
		}
		if e != api.OK || o.End != x.end || o.Steps != steps || lines(o.Outputs) != x.out {
			t.Errorf("%s: %+v %v, not %d %q", what, o, e, steps, x.out)
		}
	}
}

// W1: statements as deep as they may be, and what leaves them all at once.
func TestDeepStatements(t *testing.T) {
	const deep = deepest - 10
	kinds := map[string]func(r *layer){
		"Block": func(r *layer) { r.begin(api.Block, "") },
		"If": func(r *layer) {
			r.begin(api.If, "")
			r.leaf(api.True, "")
			r.begin(api.Block, "")
		},
		"While": func(r *layer) {
			r.begin(api.While, "")
			r.leaf(api.True, "")
			r.begin(api.Block, "")
		},
		"ForOf": func(r *layer) {
			r.begin(api.ForOf, "x")
			r.leaf(api.Str, "a")
			r.begin(api.Block, "")
		},
		"Try": func(r *layer) {
			r.begin(api.Try, "")
			r.begin(api.Block, "")
		},
	}
	for what, open := range kinds {
		each := 2
		if what == "Block" {
			each = 1
		}
		for _, leave := range []string{"throw", "return"} {
			r := newLayer()
			r.variable("f", func() {
				r.begin(api.Arrow, "")
				r.params()
				r.begin(api.Block, "")
				depth := len(r.open)
				for range deep / each {
					open(r)
				}
				if leave == "throw" {
					r.begin(api.Throw, "")
				} else {
					r.begin(api.Return, "")
				}
				r.number(7)
				r.end(1)
				for len(r.open) > depth {
					done := r.l[r.open[len(r.open)-1]].Kind
					r.end(1)
					above := r.l[r.open[len(r.open)-1]].Kind
					switch {
					case done == api.Block && above == api.Try:
						r.leaf(api.None, "")
						r.leaf(api.Block, "")
					case done == api.Block && above == api.If:
						r.leaf(api.None, "")
					}
				}
				r.end(2)
			})
			r.begin(api.Try, "")
			r.begin(api.Block, "")
			r.print(func() { r.call(func() { r.name("f") }, func() {}) })
			r.end(1)
			r.begin(api.Catch, "e")
			r.begin(api.Block, "")
			r.print(func() { r.name("e") })
			r.end(2)
			r.leaf(api.None, "")
			r.end(1)
			r.ran(t, what+" "+leave, api.EndDone, -1, "7")
		}
	}
}

// W1: a scope that is entered in each of very many Blocks, and the outermost name in all of them.
func TestDeepScopes(t *testing.T) {
	const deep = deepest - 10
	r := newLayer()
	r.variable("n", func() { r.number(0) })
	for range deep {
		r.begin(api.Block, "")
		r.variable("x", func() { r.name("n") })
		r.assign("n", "+=", func() { r.number(1) })
	}
	r.print(func() { r.name("n"); r.name("x") })
	for range deep {
		r.print(func() { r.name("x") })
		r.end(1)
	}
	out := []string{strconv.Itoa(deep) + " " + strconv.Itoa(deep-1)}
	for i := range deep {
		out = append(out, strconv.Itoa(deep-1-i))
	}
	r.ran(t, "scopes", api.EndDone, 2+deep*(1+2+3)+5+deep*4, out...)
}

// W1: MaxFrames calls, each in the middle of a very deep expression.
func TestDeepCalls(t *testing.T) {
	const deep = 5000
	r := newLayer()
	r.begin(api.Func, "f")
	r.params("n")
	r.leaf(api.None, "")
	r.begin(api.Block, "")
	r.begin(api.Return, "")
	for range deep {
		r.begin(api.Binary, "+")
		r.number(1)
	}
	r.begin(api.Binary, "&&")
	r.name("n")
	r.call(func() { r.name("f") }, func() {
		r.begin(api.Binary, "-")
		r.name("n")
		r.number(1)
		r.end(1)
	})
	r.end(deep + 4)
	for n, end := range map[int]int{199: api.EndDone, 200: api.EndDeep} {
		s := &layer{slices.Clone(r.l), []int{0}}
		s.l[0].Kids = slices.Clone(s.l[0].Kids)
		s.print(func() { s.call(func() { s.name("f") }, func() { s.number(n) }) })
		var out []string
		if end == api.EndDone {
			out = []string{strconv.Itoa((n + 1) * deep)}
		}
		s.ran(t, strconv.Itoa(n), end, -1, out...)
	}
}

// W1: very many statements, names, Funcs, kids of each kind that has many.
func TestWide(t *testing.T) {
	const wide = 100000
	key := func(i int) string { return "k" + strconv.Itoa(i) }
	r := newLayer()
	for i := range wide {
		r.variable(key(i), func() { r.number(i) })
		r.begin(api.Func, "f"+strconv.Itoa(i))
		r.params("p")
		r.leaf(api.None, "")
		r.begin(api.Block, "")
		r.begin(api.Return, "")
		r.name(key(i))
		r.end(3)
	}
	r.print(func() {
		r.name(key(0))
		r.name(key(wide - 1))
		r.call(func() { r.name("f" + strconv.Itoa(wide-1)) }, func() {})
	})
	last := strconv.Itoa(wide - 1)
	r.ran(t, "names", api.EndDone, wide*3+5+2+3, "0 "+last+" "+last)

	r = newLayer()
	r.print(func() {
		r.begin(api.Member, "length")
		r.begin(api.Array, "")
		for i := range wide {
			r.number(i)
		}
		r.end(2)
		r.begin(api.Member, key(wide-1))
		r.begin(api.Object, "")
		for i := range wide {
			r.begin(api.Prop, key(i))
			r.number(i)
			r.end(1)
		}
		r.end(2)
		r.begin(api.Member, "length")
		r.begin(api.Template, "")
		for range wide / 2 {
			r.leaf(api.Str, "")
			r.number(1)
		}
		r.leaf(api.Str, "")
		r.end(2)
	})
	r.ran(t, "kids", api.EndDone, 3+2*(2+wide)+2+wide/2, strconv.Itoa(wide)+" "+last+" "+strconv.Itoa(wide/2))

	r = newLayer()
	for range wide {
		r.leaf(api.Empty, "")
	}
	r.print(func() {
		for range wide {
			r.number(1)
		}
	})
	r.ran(t, "arguments", api.EndDone, wide+3+wide, strings.Repeat("1 ", wide-1)+"1")
}

// P16.1: as many cells as there may be, taken one by one.
func TestAllCells(t *testing.T) {
	for text, cells := range map[string]int{
		"const l = []; while (true) { l.push(1); }":                                   api.MaxCells,
		"let o = {}; while (true) { o = {o: o}; }":                                    api.MaxCells,
		"while (true) { () => 1; }":                                                   api.MaxCells,
		"class A { v = 1; } let n = 0; while (n < 100000) { n += 1; new A(); }":       2 + 2 + 200000,
		"const l = []; for (let i = 0; i < 100000; i += 1) { l[i] = () => i; }":       3 + 200000,
		"function f() {} for (let i = 0; i < 100000; i += 1) { f(); { let x = i; } }": 3,
		"let i = 0; while (i < 100000) { try { throw i; } catch (e) { i = e + 1; } }": 2,
		"let s = \"\"; while (s.length < 9000) { s += \"a\"; } for (const x of s) {}": 2,
	} {
		o, e := run.Program(read(t, text), nil, 20_000_000, api.MaxCells)
		end := api.EndDone
		if cells == api.MaxCells {
			end = api.EndHeap
		}
		if e != api.OK || o.End != end || o.Cells != cells {
			t.Errorf("%s: %+v %v", text, o, e)
		}
	}
}

// W1: a long text in very many cells takes little memory.
func TestLongTextInManyCells(t *testing.T) {
	var before, behind runtime.MemStats
	runtime.ReadMemStats(&before)
	x := read(t, "let s = \"ab\"; while (s.length < 30000) { s += s; } const l = []; while (true) { l.push(s); }")
	o, e := run.Program(x, nil, 20_000_000, 100000)
	runtime.ReadMemStats(&behind)
	if e != api.OK || o.End != api.EndHeap || o.Cells != 100000 {
		t.Error(o.End, o.Cells, e)
	}
	if n := behind.TotalAlloc - before.TotalAlloc; n > 1<<30 {
		t.Errorf("%d bytes", n)
	}
}
