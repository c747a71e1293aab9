package bind_test

import (
	"math/rand/v2"
	"testing"

	"shuck/api"
)

// frame is a scope that was entered: of each of its declarations, whether its variable has a value.
type frame struct {
	outer *frame
	has   map[int]bool
}

// made is a function at run time: the node that is done when it is called, and where it was made.
type made struct {
	node int
	at   *frame
}

// doer does a program in the order of chapter 16, but for what things are: whatever could be asked is answered by chance, and every function that there is may be called wherever one may be called.
type doer struct {
	slow
	t      *testing.T
	uses   map[int]api.Use
	choose func(n int) int
	made   []made
	calls  int
	steps  int
	late   int // uses that are Late and have no value
	behind int // uses that are not Late
}

// thrown is what a throw panics with, ended what ends a run.
type (
	thrown struct{}
	ended  struct{}
)

// How a statement ends.
const (
	goesOn = iota
	returns
	breaks
	continues
)

// enter is a new frame for the scope of a node.
func (d *doer) enter(n int, outer *frame) *frame {
	f := &frame{outer, map[int]bool{}}
	for k := n; k < len(d.l); k++ {
		if d.declares(k) && d.scope(k) == n {
			f.has[k] = !d.is(k, "Var Class Enum Namespace")
			if d.is(k, "Func") {
				d.made = append(d.made, made{k, f})
			}
		}
	}
	return f
}

// touch is a use, at which a variable must have a value, unless it is Late.
func (d *doer) touch(n int, f *frame) {
	u := d.uses[n]
	if u.Decl < 0 {
		return
	}
	for ; f != nil; f = f.outer {
		has, ok := f.has[u.Decl]
		switch {
		case !ok:
		case has && !u.Late:
			d.behind++
			return
		case has:
			return
		case u.Late:
			d.late++
			panic(thrown{})
		default:
			d.t.Fatalf("%d has no value at %d, and is not Late: %v", u.Decl, n, d.l)
		}
	}
	d.t.Fatalf("%d is no variable at %d: %v", u.Decl, n, d.l)
}

// set gives a declaration's variable a value.
func (d *doer) set(n int, f *frame) { f.has[n] = true }

func (d *doer) step() {
	d.steps++
	if d.steps > 3000 {
		panic(ended{})
	}
}

// eval does an expression, or whatever has expressions in it.
func (d *doer) eval(n int, f *frame) {
	d.step()
	kids := d.l[n].Kids
	switch {
	case d.typed(n):
		return
	case d.is(n, "Name Base"):
		d.touch(n, f)
	case d.is(n, "Arrow"):
		d.made = append(d.made, made{n, f})
		return
	case d.is(n, "Cond"):
		d.eval(kids[0], f)
		d.eval(kids[1+d.choose(2)], f)
		return
	case d.is(n, "Binary") && (d.l[n].Text == "&&" || d.l[n].Text == "||"):
		d.eval(kids[0], f)
		if d.choose(2) == 0 {
			d.eval(kids[1], f)
		}
		return
	case d.is(n, "Assign") && d.is(kids[0], "Name"):
		d.eval(kids[1], f)
		d.touch(kids[0], f)
		return
	}
	for _, kid := range kids {
		d.eval(kid, f)
	}
	if d.is(n, "Call New Super") && len(d.made) > 0 {
		d.call(d.made[d.choose(len(d.made))])
	}
	if d.choose(60) == 0 {
		panic(thrown{})
	}
}

// call calls a function: a Field's value is one too.
func (d *doer) call(m made) {
	if d.calls > 4 {
		return
	}
	d.calls++
	defer func() { d.calls-- }()
	kids := d.l[m.node].Kids
	switch last := kids[len(kids)-1]; {
	case d.is(m.node, "Field"):
		d.eval(last, m.at)
	case d.is(last, "Block"):
		d.do(last, d.enter(m.node, m.at))
	default:
		d.eval(last, d.enter(m.node, m.at))
	}
}

// all does statements one behind the other.
func (d *doer) all(l []int, f *frame) int {
	for _, n := range l {
		if end := d.do(n, f); end != goesOn {
			return end
		}
	}
	return goesOn
}

// do does a statement.
func (d *doer) do(n int, f *frame) int {
	d.step()
	kids := d.l[n].Kids
	switch {
	case d.is(n, "Block"):
		return d.all(kids, d.enter(n, f))
	case d.is(n, "Export"):
		return d.do(kids[0], f)
	case d.is(n, "Var"):
		d.eval(kids[1], f)
		d.set(n, f)
	case d.is(n, "Class"):
		d.class(n, f)
	case d.is(n, "Enum"):
		for _, kid := range kids {
			d.eval(kid, f)
		}
		d.set(n, f)
	case d.is(n, "Namespace"):
		d.all(kids, d.enter(n, f))
		d.set(n, f)
	case d.is(n, "If"):
		d.eval(kids[0], f)
		if way := d.choose(2); way == 0 || !d.is(kids[2], "-") {
			return d.do(kids[1+way], f)
		}
	case d.is(n, "While For ForOf"):
		return d.loop(n, f)
	case d.is(n, "Try"):
		return d.try(n, f)
	case d.is(n, "Return"):
		d.eval(kids[0], f)
		return returns
	case d.is(n, "Break"):
		return breaks
	case d.is(n, "Continue"):
		return continues
	case d.is(n, "Throw"):
		d.eval(kids[0], f)
		panic(thrown{})
	case d.is(n, "Eval"):
		d.eval(kids[0], f)
	}
	return goesOn
}

func (d *doer) class(n int, f *frame) {
	kids := d.l[n].Kids
	d.eval(kids[1], f)
	for _, member := range d.l[kids[3]].Kids {
		d.made = append(d.made, made{member, f})
	}
	d.set(n, f)
}

func (d *doer) loop(n int, f *frame) int {
	kids := d.l[n].Kids
	block := kids[len(kids)-1]
	switch {
	case d.is(n, "For"):
		f = d.enter(n, f)
		if d.is(kids[0], "Var") {
			d.do(kids[0], f)
		}
	case d.is(n, "ForOf"):
		d.eval(kids[0], f)
	}
	for range d.choose(4) {
		inner := f
		switch {
		case d.is(n, "ForOf"):
			inner = d.enter(n, f)
		case d.is(n, "While"):
			d.eval(kids[0], f)
		default:
			d.eval(kids[1], f)
		}
		switch end := d.do(block, inner); end {
		case returns:
			return end
		case breaks:
			return goesOn
		}
		if d.is(n, "For") {
			d.eval(kids[2], f)
		}
	}
	return goesOn
}

func (d *doer) try(n int, f *frame) int {
	kids := d.l[n].Kids
	end, threw := d.guarded(kids[0], f)
	if threw && d.is(kids[1], "Catch") {
		end, threw = d.guarded(d.l[kids[1]].Kids[0], d.enter(kids[1], f))
	}
	if d.is(kids[2], "Block") {
		if last := d.do(kids[2], f); last != goesOn {
			return last
		}
	}
	if threw {
		panic(thrown{})
	}
	return end
}

// guarded does a Block, and tells whether it throws.
func (d *doer) guarded(n int, f *frame) (end int, threw bool) {
	calls := d.calls
	defer func() {
		switch r := recover().(type) {
		case nil:
		case thrown:
			threw, d.calls = true, calls
		default:
			panic(r)
		}
	}()
	return d.do(n, f), false
}

// run does a program, and then calls what it has made.
func (d *doer) run() {
	guarded := func(f func()) {
		defer func() {
			switch r := recover().(type) {
			case nil, thrown, ended:
			default:
				panic(r)
			}
		}()
		f()
	}
	guarded(func() { d.all(d.l[0].Kids, d.enter(0, nil)) })
	for range 20 {
		d.calls, d.steps = 0, 0
		if len(d.made) > 0 {
			guarded(func() { d.call(d.made[d.choose(len(d.made))]) })
		}
	}
}

// P7.3: a use that is not Late has a value, whatever is done of a program by chance, and however it ends; one that is Late may have none.
func TestNotLateHasValue(t *testing.T) {
	g := newGrower(4)
	r := rand.New(rand.NewPCG(5, 7))
	late, behind := 0, 0
	for n := range 300 {
		x, ok := g.good(t, 4+n%5, map[string]int{})
		if !ok {
			continue
		}
		l, _, _ := program(t, x)
		uses := map[int]api.Use{}
		for _, u := range l {
			uses[u.At] = u
		}
		for range 6 {
			d := &doer{slow: newSlow(x), t: t, uses: uses, choose: r.IntN}
			d.run()
			late += d.late
			behind += d.behind
		}
	}
	t.Log(late, behind)
	if late < 50 || behind < 500 {
		t.Errorf("only %d, %d", late, behind)
	}
}
