package machine_test

import (
	"strconv"
	"testing"

	"shuck/api"
)

// beginMarked lays a node with a Num.
func (r *layer) beginMarked(kind int, text string, num int) {
	r.begin(kind, text)
	r.l[len(r.l)-1].Num = num
}

// enum lays an Enum; no member has a value.
func (r *layer) enum(name string, mark int, members ...string) {
	r.beginMarked(api.Enum, name, mark)
	for _, m := range members {
		r.begin(api.EnumMember, m)
		r.leaf(api.None, "")
		r.end(1)
	}
	r.end(1)
}

func (r *layer) member(of, key string) {
	r.begin(api.Member, key)
	r.name(of)
	r.end(1)
}

// through lays As and Bang in turns, so many, about what is laid by what is handed.
func (r *layer) through(count int, kid func()) {
	for i := range count {
		r.begin([]int{api.As, api.Bang}[i%2], "")
	}
	kid()
	for i := range count {
		if (count-1-i)%2 == 0 {
			r.leaf(api.TypeNum, "")
		}
		r.end(1)
	}
}

func keys(count int) []string {
	var l []string
	for i := range count {
		l = append(l, "k"+strconv.Itoa(i))
	}
	return l
}

// W1: As and Bang as deep as they may be, also about what is called.
func TestDeepThrough(t *testing.T) {
	const deep = deepest - 10
	r := newLayer()
	r.print(func() { r.through(deep, func() { r.number(7) }) })
	r.ranAs(t, typed(), "an expression", api.EndDone, 3+deep+1, "7")
	for what, x := range map[string]struct {
		callee func(r *layer)
		steps  int
		out    string
	}{
		"a Name":        {func(r *layer) { r.name("print") }, 1, "5"},
		"a Member":      {func(r *layer) { r.member("o", "m") }, 2, "5"},
		"a Member push": {func(r *layer) { r.member("l", "push") }, 2, ""},
		"an Index": {func(r *layer) {
			r.begin(api.Index, "")
			r.name("l")
			r.number(0)
			r.end(1)
		}, 3, "5"},
	} {
		r := newLayer()
		r.variable("l", func() {
			r.begin(api.Array, "")
			r.name("print")
			r.end(1)
		})
		r.variable("o", func() {
			r.begin(api.Object, "")
			r.begin(api.Prop, "m")
			r.name("print")
			r.end(2)
		})
		r.eval(func() { r.call(func() { r.through(deep, func() { x.callee(r) }) }, func() { r.number(5) }) })
		var out []string
		if x.out != "" {
			out = []string{x.out}
		}
		r.ranAs(t, typed(), what, api.EndDone, 6+2+deep+x.steps+1, out...)
	}
	// Calls within calls, each looked through.
	r = newLayer()
	r.variable("f", func() {
		r.begin(api.Arrow, "")
		r.params()
		r.name("print")
		r.end(1)
	})
	r.begin(api.Eval, "")
	for range deep / 2 {
		r.begin(api.Call, "")
		r.begin(api.Bang, "")
	}
	r.name("print")
	for range deep / 2 {
		r.end(1)
		r.leaves(2, api.List)
		r.end(1)
	}
	r.ranAs(t, typed(), "calls", api.EndThrow, -1, "")
}

// W1: Namespaces as deep as they may be: MaxFrames of them are under way at most; those that are not come to are nothing.
func TestDeepNamespaces(t *testing.T) {
	const deep = deepest/2 - 10
	r := newLayer()
	r.begin(api.If, "")
	r.leaf(api.False, "")
	r.begin(api.Block, "")
	for i := range deep {
		if i > 0 {
			r.begin(api.Export, "")
		}
		r.begin(api.Namespace, "N")
	}
	r.end(2*deep - 1 + 1)
	r.leaf(api.None, "")
	r.end(1)
	r.ranAs(t, typed(), "not done", api.EndDone, 2)
	for count, end := range map[int]int{api.MaxFrames: api.EndDone, api.MaxFrames + 1: api.EndDeep, deep: api.EndDeep} {
		r := newLayer()
		for i := range count {
			if i > 0 {
				r.begin(api.Export, "")
			}
			r.begin(api.Namespace, "N")
		}
		r.ranAs(t, typed(), strconv.Itoa(count), end, min(count, api.MaxFrames+1))
	}
}

// W1: Blocks as deep as they may be, each with Enums of its own and the outermost ones used; types as deep, too.
func TestDeepEnums(t *testing.T) {
	const deep = deepest - 10
	r := newLayer()
	r.enum("F", api.Const, "A", "B")
	r.enum("G", 0, "A", "B")
	for range deep {
		r.begin(api.Block, "")
		r.enum("E", api.Const, "A")
		r.enum("H", 0, "A")
		r.eval(func() { r.member("F", "B") })
		r.eval(func() { r.member("G", "B") })
	}
	r.print(func() { r.member("F", "B"); r.member("G", "B"); r.member("E", "A"); r.member("H", "A") })
	r.ranAs(t, typed(), "Blocks", api.EndDone, 2+deep*(1+2+2+3)+3+1+2+1+2, "1 1 0 0")
	r = newLayer()
	r.begin(api.Var, "x")
	for range deep {
		r.begin(api.TypeArray, "")
	}
	r.leaf(api.TypeNum, "")
	r.end(deep)
	r.number(1)
	r.end(1)
	r.begin(api.Func, "f")
	r.leaf(api.List, "")
	r.begin(api.List, "")
	r.begin(api.Param, "g")
	for range deep / 3 {
		r.begin(api.TypeFunc, "")
		r.begin(api.List, "")
		r.begin(api.Param, "g")
	}
	r.leaf(api.None, "")
	for range deep / 3 {
		r.end(2)
		r.leaf(api.TypeNum, "")
		r.end(1)
	}
	r.end(1)
	r.begin(api.Param, "y")
	r.leaf(api.None, "")
	r.end(2)
	r.leaf(api.None, "")
	r.begin(api.Block, "")
	r.begin(api.Return, "")
	r.name("y")
	r.end(3)
	r.print(func() { r.call(func() { r.name("f") }, func() { r.name("x"); r.number(2) }) })
	r.ranAs(t, typed(), "types", api.EndDone, 2+1+3+4+3, "2")
}

// W1: very many members of Enums, and very many Enums.
func TestWideEnums(t *testing.T) {
	const wide = 100000
	last := strconv.Itoa(wide - 1)
	r := newLayer()
	r.enum("E", 0, keys(wide)...)
	r.enum("F", api.Const, keys(wide)...)
	r.print(func() { r.member("E", "k"+last); r.member("E", "k0"); r.member("F", "k"+last) })
	for i := range wide {
		r.eval(func() { r.member("F", "k"+strconv.Itoa(i)) })
	}
	r.ranAs(t, typed(), "members", api.EndDone, 2+3+2+2+1+2*wide, last+" 0 "+last)
	r = newLayer()
	for i, key := range keys(wide) {
		r.enum(key, i%2*api.Const, "A", "B")
		r.eval(func() { r.member(key, "B") })
	}
	r.ranAs(t, typed(), "Enums", api.EndDone, wide*2+wide/2*2+wide/2)
}

// W1: very many Exports, Params that are members, statements for types.
func TestWideTyped(t *testing.T) {
	const wide = 100000
	last := strconv.Itoa(wide - 1)
	r := newLayer()
	r.begin(api.Namespace, "N")
	for i, key := range keys(wide) {
		r.begin(api.Export, "")
		r.beginMarked(api.Var, key, api.Const)
		r.leaf(api.None, "")
		r.number(i)
		r.end(2)
	}
	r.end(1)
	r.print(func() { r.member("N", "k0"); r.member("N", "k"+last) })
	r.ranAs(t, typed(), "Exports", api.EndDone, 1+2*wide+3+4, "0 "+last)
	r = newLayer()
	r.begin(api.Class, "C")
	r.leaf(api.List, "")
	r.leaf(api.None, "")
	r.leaf(api.List, "")
	r.begin(api.List, "")
	r.begin(api.Ctor, "")
	r.begin(api.List, "")
	for _, key := range keys(wide) {
		r.beginMarked(api.Param, key, api.Public)
		r.leaf(api.None, "")
		r.end(1)
	}
	r.end(1)
	r.leaf(api.Block, "")
	r.end(3)
	r.print(func() {
		r.begin(api.Member, "k"+last)
		r.begin(api.New, "")
		r.name("C")
		r.leaf(api.List, "")
		r.begin(api.List, "")
		for i := range wide {
			r.number(i)
		}
		r.end(3)
	})
	r.ranAs(t, typed(), "Params", api.EndDone, 1+3+1+1+1+wide+1, last)
	r = newLayer()
	for range wide {
		r.begin(api.Interface, "I")
		r.leaves(2, api.List)
		r.leaf(api.TypeObject, "")
		r.end(1)
		r.begin(api.Alias, "T")
		r.leaf(api.List, "")
		r.leaf(api.TypeNum, "")
		r.end(1)
	}
	r.ranAs(t, typed(), "types", api.EndDone, 2*wide)
}

// P17.1: as many cells as there may be, taken by what is not plain.
func TestAllCellsTyped(t *testing.T) {
	for text, cells := range map[string]int{
		"while (true) { enum E { A, B } }":                                                                      api.MaxCells,
		"while (true) { namespace N { export const a = 1; } }":                                                  api.MaxCells,
		"class P { constructor(public a, public b) {} } while (true) { new P(); }":                              api.MaxCells,
		"for (let i = 0; i < 100000; i += 1) { const enum F { A } interface I {} F.A!; }":                       2,
		"for (let i = 0; i < 100000; i += 1) { namespace N { const a = i as any; } }":                           2 + 100000,
		"const l = []; for (let i = 0; i < 100000; i += 1) { (l.push as any)!(i!); } enum E { A, B } print(E);": 3 + 100000 + 3,
	} {
		got := typed().program(read(t, text), nil, 20_000_000, api.MaxCells)
		end := api.EndDone
		if cells == api.MaxCells {
			end = api.EndHeap
		}
		if got.err != api.OK || got.End != end || got.Cells != cells {
			t.Errorf("%s: %+v", text, got.short())
		}
	}
}
