package machine_test

import (
	"slices"
	"strings"

	"shuck/api"
	"shuck/heap"
	"shuck/value"
)

// A slow reading of chapters 16 and 17: it goes through a program by calling itself, names are looked up one scope after the other, and what leaves early is a panic of Go's.

// slowRun is a program at work.
type slowRun struct {
	x         api.Tree
	l         []api.Node
	up        []int // of each node, what it stands beneath
	h         *heap.Heap
	inputs    []string
	outputs   []string
	fuel      int
	steps     int
	calls     int // under way
	functions map[int]*slowFunction
	classes   map[int]*slowClass
	has       map[string]int // what happened, by a word for it
}

// slowScope is one of chapter 7 that was entered; a variable without a value is nil.
type slowScope struct {
	names  map[string]*api.Value
	consts map[string]int // those of Const Enums
	outer  *slowScope
}

func newSlowScope(outer *slowScope) *slowScope {
	return &slowScope{map[string]*api.Value{}, map[string]int{}, outer}
}

// where is what is present: the scope, this, and the class whose Method, Ctor or Field it is.
type where struct {
	scope *slowScope
	this  api.Value
	class *slowClass
}

// slowFunction is a Func, a Method or an Arrow, and where it was made.
type slowFunction struct {
	n  int
	at where
}

type slowClass struct {
	n         int
	scope     *slowScope
	base      *slowClass
	prototype api.Value
}

// What leaves early: what is thrown; what the run ends with; what a Return, a Break or a Continue ends.
type (
	slowThrown   struct{ v api.Value }
	slowEnd      struct{ end int }
	slowReturn   struct{ v api.Value }
	slowBreak    struct{}
	slowContinue struct{}
)

// slowly is what the chapter says that a Program answers, and what happened.
func (f face) slowly(x api.Tree, inputs []string, fuel, cells int) (a answer, has map[string]int) {
	if e := f.refuses(x); e != api.OK {
		return answer{err: e}, nil
	}
	h, e := heap.New(cells)
	if e != api.OK || fuel < 0 || fuel > 1<<40 {
		return answer{err: api.ErrArg}, nil
	}
	s := &slowRun{x: x, l: x.Nodes, up: make([]int, len(x.Nodes)), h: h, inputs: inputs, fuel: fuel, functions: map[int]*slowFunction{}, classes: map[int]*slowClass{}, has: map[string]int{}}
	for n, node := range s.l {
		for _, kid := range node.Kids {
			s.up[kid] = n
		}
	}
	a.End, a.Thrown = s.whole()
	a.Outputs, a.Steps, a.Cells = s.outputs, s.steps, h.Used()
	return a, s.has
}

// whole does the Program, and tells its end.
func (s *slowRun) whole() (end int, thrown string) {
	defer func() {
		switch x := recover().(type) {
		case nil:
		case slowEnd:
			end = x.end
		case slowThrown:
			end, thrown = api.EndThrow, s.h.Show(x.v)
		default:
			panic(x)
		}
	}()
	about := newSlowScope(nil)
	for _, name := range []string{"print", "input"} {
		f := s.lay(api.CFunction, -1)
		about.names[name] = &f
	}
	s.statements(0, where{scope: about})
	return api.EndDone, ""
}

func (s *slowRun) kids(n int) []int { return s.l[n].Kids }

// fault does what a fault asks for.
func (s *slowRun) fault(text string, fault int) {
	switch fault {
	case api.FaultThrow:
		panic(slowThrown{api.Value{Kind: api.VString, Text: text}})
	case api.FaultInexact:
		panic(slowEnd{api.EndInexact})
	case api.FaultFull:
		panic(slowEnd{api.EndHeap})
	}
}

func (s *slowRun) throw(text string) {
	s.has[text]++
	s.fault(text, api.FaultThrow)
}

func (s *slowRun) told(v api.Value, text string, fault int) api.Value {
	s.fault(text, fault)
	return v
}

func (s *slowRun) lay(kind, proto int) api.Value {
	n, fault := s.h.Make(kind, proto)
	s.fault("", fault)
	return api.Value{Kind: api.VRef, Num: n}
}

func (s *slowRun) function(n int, at where) api.Value {
	v := s.lay(api.CFunction, -1)
	s.functions[v.Num] = &slowFunction{n, at}
	return v
}

// kind is what sort of thing a value is; 0 of none.
func (s *slowRun) kind(v api.Value) int {
	if v.Kind == api.VRef {
		return s.h.Kind(v.Num)
	}
	return 0
}

// begin begins a step.
func (s *slowRun) begin() {
	if s.steps == s.fuel {
		panic(slowEnd{api.EndFuel})
	}
	s.steps++
}

// done are statements, an Export being what it exports.
func (s *slowRun) done(statements []int) []int {
	var l []int
	for _, n := range statements {
		if s.l[n].Kind == api.Export {
			n = s.kids(n)[0]
		}
		l = append(l, n)
	}
	return l
}

// within is a new scope with the declarations of these statements.
func (s *slowRun) within(c where, statements []int) where {
	c.scope = newSlowScope(c.scope)
	for _, n := range s.done(statements) {
		switch name := s.l[n].Text; {
		case s.isConst(n):
			c.scope.consts[name] = n
			c.scope.names[name] = nil
		case s.isOf(n, api.Var, api.Class, api.Enum, api.Namespace):
			c.scope.names[name] = nil
		case s.isOf(n, api.Func):
			f := s.function(n, c)
			c.scope.names[name] = &f
		}
	}
	return c
}

func (s *slowRun) isOf(n int, kinds ...int) bool { return slices.Contains(kinds, s.l[n].Kind) }

// isConst tells whether a node is an Enum that is Const.
func (s *slowRun) isConst(n int) bool { return s.isOf(n, api.Enum) && s.l[n].Num == api.Const }

// with is a new scope with one variable.
func (c where) with(name string, v api.Value) where {
	c.scope = newSlowScope(c.scope)
	c.scope.names[name] = &v
	return c
}

// place is the innermost scope that has a name.
func (s *slowRun) place(name string, c where) *slowScope {
	for x := c.scope; ; x = x.outer {
		if _, ok := x.names[name]; ok {
			return x
		}
	}
}

func (s *slowRun) read(name string, c where) api.Value {
	v := s.place(name, c).names[name]
	if v == nil {
		s.throw("ReferenceError: " + name)
	}
	return *v
}

func (s *slowRun) assign(name string, c where, v api.Value) {
	s.read(name, c)
	s.place(name, c).names[name] = &v
}

// list does expressions, one by one.
func (s *slowRun) list(l []int, c where) []api.Value {
	var values []api.Value
	for _, n := range l {
		values = append(values, s.expr(n, c))
	}
	return values
}

// expr begins an expression, and is its value.
func (s *slowRun) expr(n int, c where) api.Value {
	if s.isOf(n, api.Member, api.Index, api.SuperMember) {
		_, v := s.owned(n, c)
		return v
	}
	s.begin()
	kids, word := s.kids(n), s.l[n].Text
	switch s.l[n].Kind {
	case api.Num:
		return api.Value{Kind: api.VNumber, Num: s.l[n].Num}
	case api.Str:
		return api.Value{Kind: api.VString, Text: word}
	case api.True:
		return api.Value{Kind: api.VBool, Num: 1}
	case api.False:
		return api.Value{Kind: api.VBool}
	case api.Null:
		return api.Value{Kind: api.VNull}
	case api.Undefined:
		return api.Value{}
	case api.This:
		return c.this
	case api.Name:
		return s.read(word, c)
	case api.Template:
		return s.template(kids, c)
	case api.Array:
		l := s.list(kids, c)
		v := s.lay(api.CArray, -1)
		s.push(v, l)
		return v
	case api.Object:
		return s.object(kids, c)
	case api.Arrow:
		return s.function(n, c)
	case api.Unary:
		v := s.expr(kids[0], c)
		if word == "typeof" {
			return api.Value{Kind: api.VString, Text: s.h.Typeof(v)}
		}
		return s.told(value.Unary(word, v))
	case api.Binary:
		return s.binary(word, kids[0], kids[1], c)
	case api.Cond:
		if value.Truth(s.expr(kids[0], c)) {
			return s.expr(kids[1], c)
		}
		return s.expr(kids[2], c)
	case api.Assign:
		return s.assigned(word, kids[0], kids[1], c)
	case api.Call:
		return s.call(kids[0], s.kids(kids[2]), c)
	case api.New:
		return s.create(kids[0], s.kids(kids[2]), c)
	case api.As, api.Bang:
		s.has["through"]++
		return s.expr(kids[0], c)
	case api.Super:
		args := s.list(s.kids(kids[0]), c)
		s.make(c.class.base, c.this, args)
		s.fields(c.class, c.this)
		return api.Value{}
	}
	panic("no expression")
}

// owned begins a Member, an Index or a SuperMember; it tells what this of a call is, too.
func (s *slowRun) owned(n int, c where) (this, v api.Value) {
	s.begin()
	kids := s.kids(n)
	switch s.l[n].Kind {
	case api.Member:
		if v, ok := s.constant(n, c); ok {
			return api.Value{}, v
		}
		this = s.expr(kids[0], c)
		return this, s.told(s.h.Get(this, s.l[n].Text))
	case api.Index:
		this = s.expr(kids[0], c)
		index := s.expr(kids[1], c)
		return this, s.told(s.h.At(this, index))
	}
	s.has["super."]++
	return c.this, s.told(s.h.Get(c.class.base.prototype, s.l[n].Text))
}

func (s *slowRun) template(kids []int, c where) api.Value {
	var holes []api.Value
	for i, n := range kids {
		if i%2 == 1 {
			holes = append(holes, s.expr(n, c))
		}
	}
	whole := ""
	for i, n := range kids {
		if i%2 == 0 {
			whole += s.l[n].Text
		} else {
			whole += s.h.Show(holes[i/2])
		}
		if len(whole) > api.MaxBytes {
			panic(slowEnd{api.EndHeap})
		}
	}
	return api.Value{Kind: api.VString, Text: whole}
}

func (s *slowRun) push(l api.Value, values []api.Value) {
	for _, v := range values {
		_, fault := s.h.Push(l.Num, v)
		s.fault("", fault)
	}
}

func (s *slowRun) object(props []int, c where) api.Value {
	var values []api.Value
	for _, p := range props {
		values = append(values, s.expr(s.kids(p)[0], c))
	}
	o := s.lay(api.CObject, -1)
	for i, p := range props {
		s.fault(s.h.Set(o, s.l[p].Text, values[i]))
	}
	return o
}

func (s *slowRun) binary(op string, left, right int, c where) api.Value {
	a := s.expr(left, c)
	switch {
	case op == "&&" && !value.Truth(a), op == "||" && value.Truth(a):
		return a
	case op == "&&" || op == "||":
		return s.expr(right, c)
	}
	b := s.expr(right, c)
	if op != "in" {
		return s.told(value.Binary(op, a, b))
	}
	if a.Kind != api.VString {
		s.throw("TypeError: in")
	}
	v := api.Value{Kind: api.VBool}
	is, text, fault := s.h.Has(b, a.Text)
	s.fault(text, fault)
	if is {
		v.Num = 1
	}
	return v
}

func (s *slowRun) assigned(sign string, to, with int, c where) api.Value {
	s.has[sign]++
	var old, of, index api.Value
	changes := sign != "="
	word, kids := s.l[to].Text, s.kids(to)
	switch s.l[to].Kind {
	case api.Name:
		if changes {
			old = s.read(word, c)
		}
	case api.Member:
		of = s.expr(kids[0], c)
		if changes {
			old = s.told(s.h.Get(of, word))
		}
	case api.Index:
		of = s.expr(kids[0], c)
		index = s.expr(kids[1], c)
		if changes {
			old = s.told(s.h.At(of, index))
		}
	}
	v := s.expr(with, c)
	if changes {
		v = s.told(value.Binary(sign[:len(sign)-1], old, v))
	}
	switch s.l[to].Kind {
	case api.Name:
		s.assign(word, c, v)
	case api.Member:
		s.fault(s.h.Set(of, word, v))
	case api.Index:
		s.fault(s.h.Put(of, index, v))
	}
	return v
}

func (s *slowRun) call(first int, arguments []int, c where) api.Value {
	var this, f api.Value
	for s.isOf(first, api.As, api.Bang) {
		s.begin()
		s.has["called through"]++
		first = s.kids(first)[0]
	}
	if s.isOf(first, api.Member, api.Index, api.SuperMember) {
		this, f = s.owned(first, c)
	} else {
		f = s.expr(first, c)
	}
	args := s.list(arguments, c)
	switch {
	case s.l[first].Kind == api.Member && s.l[first].Text == "push" && s.kind(this) == api.CArray:
		s.has["push"]++
		s.push(this, args)
		return api.Value{Kind: api.VNumber, Num: s.h.Len(this.Num)}
	case s.kind(f) != api.CFunction:
		s.throw("TypeError: no function")
	case f.Num == 0:
		var l []string
		for _, v := range args {
			l = append(l, s.h.Show(v))
		}
		s.outputs = append(s.outputs, strings.Join(l, " "))
		return api.Value{}
	case f.Num == 1:
		if len(s.inputs) == 0 {
			s.has["no line"]++
			return api.Value{Kind: api.VNull}
		}
		v := api.Value{Kind: api.VString, Text: s.inputs[0]}
		s.inputs = s.inputs[1:]
		s.has["taken"]++
		return v
	}
	return s.apply(s.functions[f.Num], this, args)
}

// more is one more call under way; what it answers ends it.
func (s *slowRun) more() func() {
	if s.calls == api.MaxFrames {
		panic(slowEnd{api.EndDeep})
	}
	s.calls++
	return func() { s.calls-- }
}

// params is a scope with arguments.
func (s *slowRun) params(c where, params int, args []api.Value) where {
	c.scope = newSlowScope(c.scope)
	for i, p := range s.kids(params) {
		v := api.Value{}
		if i < len(args) {
			v = args[i]
		}
		c.scope.names[s.l[p].Text] = &v
	}
	return c
}

func (s *slowRun) apply(f *slowFunction, this api.Value, args []api.Value) api.Value {
	defer s.more()()
	c := f.at
	if s.l[f.n].Kind != api.Arrow {
		c.this = this
	}
	kids := s.kids(f.n)
	s.has["calls"]++
	c = s.params(c, kids[1], args)
	last := kids[len(kids)-1]
	if s.l[last].Kind != api.Block {
		return s.expr(last, c)
	}
	return s.returned(last, c)
}

// returned does the Block of a function, and is what its Return returns.
func (s *slowRun) returned(n int, c where) (v api.Value) {
	defer func() {
		switch x := recover().(type) {
		case nil:
		case slowReturn:
			v = x.v
		default:
			panic(x)
		}
	}()
	s.statement(n, c)
	return v
}

func (s *slowRun) create(first int, arguments []int, c where) api.Value {
	v := s.expr(first, c)
	args := s.list(arguments, c)
	if s.kind(v) != api.CClass {
		s.throw("TypeError: no class")
	}
	class := s.classes[v.Num]
	o := s.lay(api.CObject, class.prototype.Num)
	s.make(class, o, args)
	return o
}

// members are the members of a Class that are of a kind.
func (s *slowRun) members(n, kind int) []int {
	var l []int
	for _, x := range s.kids(s.kids(n)[3]) {
		if s.l[x].Kind == kind {
			l = append(l, x)
		}
	}
	return l
}

func (s *slowRun) make(class *slowClass, o api.Value, args []api.Value) {
	defer s.more()()
	s.has["makings"]++
	ctors := s.members(class.n, api.Ctor)
	switch {
	case class.base == nil:
		s.fields(class, o)
	case len(ctors) == 0:
		s.make(class.base, o, args)
		s.fields(class, o)
	}
	if len(ctors) > 0 {
		kids := s.kids(ctors[0])
		s.returned(kids[1], s.params(where{class.scope, o, class}, kids[0], args))
	}
}

func (s *slowRun) fields(class *slowClass, o api.Value) {
	for _, x := range s.members(class.n, api.Field) {
		if s.isOf(s.kids(x)[1], api.None) {
			continue
		}
		v := s.expr(s.kids(x)[1], where{class.scope, o, class})
		s.fault(s.h.Set(o, s.l[x].Text, v))
	}
}

// statements are those of a Program or a Block, in its scope.
func (s *slowRun) statements(n int, c where) {
	c = s.within(c, s.kids(n))
	if s.keeps(n) && !s.isBased(n) {
		s.keep(n, c)
	}
	for i, x := range s.kids(n) {
		s.statement(x, c)
		if i == 0 && s.keeps(n) && s.isBased(n) {
			s.keep(n, c)
		}
	}
}

func (s *slowRun) statement(n int, c where) {
	s.begin()
	kids, word := s.kids(n), s.l[n].Text
	switch s.l[n].Kind {
	case api.Var:
		v := s.expr(kids[1], c)
		c.scope.names[word] = &v
	case api.Class:
		s.class(n, c)
	case api.Enum:
		s.enum(n, c)
	case api.Namespace:
		v := s.namespace(n, c)
		c.scope.names[word] = &v
	case api.Eval:
		s.expr(kids[0], c)
	case api.Block:
		s.statements(n, c)
	case api.If:
		if value.Truth(s.expr(kids[0], c)) {
			s.statement(kids[1], c)
		} else if s.l[kids[2]].Kind != api.None {
			s.statement(kids[2], c)
		}
	case api.While:
		for value.Truth(s.expr(kids[0], c)) && s.round(kids[1], c) {
		}
	case api.For:
		s.forLoop(kids, c)
	case api.ForOf:
		s.forOf(word, kids, c)
	case api.Return:
		var v api.Value
		if s.l[kids[0]].Kind != api.None {
			v = s.expr(kids[0], c)
		}
		panic(slowReturn{v})
	case api.Break:
		panic(slowBreak{})
	case api.Continue:
		panic(slowContinue{})
	case api.Throw:
		panic(slowThrown{s.expr(kids[0], c)})
	case api.Try:
		s.try(kids, c)
	}
}

// round does a loop's Block, and tells whether the loop goes on.
func (s *slowRun) round(n int, c where) (goesOn bool) {
	defer func() {
		switch x := recover().(type) {
		case nil:
		case slowBreak:
			s.has["break"]++
			goesOn = false
		case slowContinue:
			s.has["continue"]++
			goesOn = true
		default:
			panic(x)
		}
	}()
	s.statement(n, c)
	return true
}

func (s *slowRun) forLoop(kids []int, c where) {
	if s.l[kids[0]].Kind == api.Var {
		c = s.within(c, kids[:1])
		s.statement(kids[0], c)
	}
	for s.l[kids[1]].Kind == api.None || value.Truth(s.expr(kids[1], c)) {
		if !s.round(kids[3], c) {
			break
		}
		if s.l[kids[2]].Kind != api.None {
			s.expr(kids[2], c)
		}
	}
}

func (s *slowRun) forOf(name string, kids []int, c where) {
	v := s.expr(kids[0], c)
	switch {
	case v.Kind == api.VString:
		for _, r := range v.Text {
			if !s.round(kids[1], c.with(name, api.Value{Kind: api.VString, Text: string(r)})) {
				return
			}
		}
	case s.kind(v) == api.CArray:
		for i := 0; i < s.h.Len(v.Num); i++ {
			x := s.told(s.h.At(v, api.Value{Kind: api.VNumber, Num: i}))
			if !s.round(kids[1], c.with(name, x)) {
				return
			}
		}
	default:
		s.throw("TypeError: not iterable")
	}
}

func (s *slowRun) class(n int, c where) {
	kids := s.kids(n)
	class := &slowClass{n: n, scope: c.scope}
	behind := -1
	if s.l[kids[1]].Kind == api.Base {
		v := s.read(s.l[kids[1]].Text, c)
		if s.kind(v) != api.CClass {
			s.throw("TypeError: no class")
		}
		class.base = s.classes[v.Num]
		behind = class.base.prototype.Num
	}
	v := s.lay(api.CClass, -1)
	class.prototype = s.lay(api.CObject, behind)
	for _, x := range s.members(n, api.Method) {
		f := s.function(x, where{scope: c.scope, class: class})
		s.fault(s.h.Set(class.prototype, s.l[x].Text, f))
	}
	s.classes[v.Num] = class
	c.scope.names[s.l[n].Text] = &v
}

// ending does something, and is what it panicked with; what ends the run goes on.
func (s *slowRun) ending(do func()) (x any) {
	calls := s.calls
	defer func() {
		x = recover()
		if end, ok := x.(slowEnd); ok {
			panic(end)
		}
		s.calls = calls
	}()
	do()
	return nil
}

func (s *slowRun) try(kids []int, c where) {
	how := s.ending(func() { s.statement(kids[0], c) })
	if thrown, ok := how.(slowThrown); ok && s.l[kids[1]].Kind == api.Catch {
		s.has["catch"]++
		how = s.ending(func() {
			s.statement(s.kids(kids[1])[0], c.with(s.l[kids[1]].Text, thrown.v))
		})
	}
	if s.l[kids[2]].Kind == api.Block {
		s.has["finally"]++
		s.statement(kids[2], c)
	}
	if how != nil {
		s.has["goes on"]++
		panic(how)
	}
}
