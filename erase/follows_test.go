package erase_test

import (
	"slices"
	"strconv"
	"strings"
	"testing"

	"shuck/api"
	"shuck/bind"
	"shuck/core"
	"shuck/tree"
)

// renamed is a program in which each Const Enum has a name that no other thing has.
func renamed(t *testing.T, x api.Tree) api.Tree {
	t.Helper()
	uses, _, e := bind.Program(x)
	if e != api.OK {
		t.Fatal(e)
	}
	isConst := func(n int) bool { return n >= 0 && x.Nodes[n].Kind == api.Enum && x.Nodes[n].Num == api.Const }
	return turned(x, func(l []api.Node) {
		for n := range l {
			if isConst(n) {
				l[n].Text = "$const" + strconv.Itoa(n)
			}
		}
		for _, u := range uses {
			if isConst(u.Decl) {
				l[u.At].Text = "$const" + strconv.Itoa(u.Decl)
			}
		}
	})
}

// P13.2: what a Const Enum is called is nowhere in what is erased, in programs by chance. (That this is plain, that chapter 7 takes it and that its text is read again as it is looked at wherever something is erased.)
func TestConstNamesGo(t *testing.T) {
	g := newGrower(2)
	for n := range 600 {
		x, ok := g.good(t, 3+n%4, map[string]int{})
		if !ok {
			continue
		}
		want, _ := agrees(t, "by chance", x)
		got, _ := agrees(t, "with other names", renamed(t, x))
		if !got.is(want) {
			t.Fatalf("%s\nwith other names:\n%s", told(want.left), told(got.left))
		}
		for _, node := range got.left.Nodes {
			if strings.HasPrefix(node.Text, "$const") {
				t.Fatalf("%s in %s", node.Text, told(got.left))
			}
		}
	}
}

// typer makes other types of a program.
type typer struct {
	*grower
	cases map[*thing]bool // the Names that stand for Const Enums
}

// list is a List of some things of a place.
func (r typer) list(place string) *thing { return r.fill("["+place+"]", 2) }

// What may be laid about a thing: whatever its kind takes; no As and no Bang; none, nor about the Members beneath it.
const (
	free = iota
	rigid
	rigidMembers
)

// retyped is a thing with other types in it.
func (r typer) retyped(y *thing, hold int) *thing {
	switch {
	case isOf(y.kind, "As Bang"):
		if r.choose(2) == 0 {
			return r.retyped(y.kids[0], hold)
		}
	case isOf(y.kind, "Enum"):
		return y // its expressions are those of constants
	}
	x := &thing{kind: y.kind, text: y.text, num: y.num, at: r.choose(99)}
	for i, kid := range y.kids {
		x.kids = append(x.kids, r.retyped(kid, r.hold(y, i, hold)))
	}
	r.retype(x)
	if isExpr := x.kind >= api.Num && x.kind <= api.Bang && x.kind != api.Prop; isExpr && hold == free && !r.cases[y] && x.kind != api.Super {
		switch r.choose(8) {
		case 0:
			return &thing{kind: api.Bang, kids: []*thing{x}}
		case 1:
			return &thing{kind: api.As, kids: []*thing{x, r.fill("T", 2)}}
		}
	}
	return x
}

// hold is what may be laid about a kid.
func (r typer) hold(y *thing, kid, hold int) int {
	switch {
	case isOf(y.kind, "New") && kid == 0, isOf(y.kind, "Member") && hold == rigidMembers:
		return rigidMembers
	case isOf(y.kind, "Assign") && kid == 0, isOf(y.kind, "Template") && kid%2 == 0:
		return rigid
	}
	return free
}

// retype makes other types, other marks, other statements for types of what a thing has.
func (r typer) retype(x *thing) {
	switch {
	case isOf(x.kind, "Var Field Param"):
		x.kids[0] = r.fill("T/-", 2)
	case isOf(x.kind, "Func Method"):
		x.kids[0], x.kids[2] = r.list("TypeParam"), r.fill("T/-", 2)
	case isOf(x.kind, "Arrow"):
		x.kids[0] = r.list("TypeParam")
	case isOf(x.kind, "Class"):
		x.kids[0], x.kids[2] = r.list("TypeParam"), r.list("TypeName")
		x.kids[3].kids = slices.DeleteFunc(x.kids[3].kids, func(k *thing) bool { return k.kind == api.Field && k.kids[1].kind == api.None })
		for range r.choose(3) {
			f := r.grow("Field", 1)
			f.kids[1] = &thing{kind: api.None}
			x.kids[3].kids = slices.Insert(x.kids[3].kids, r.choose(len(x.kids[3].kids)+1), f)
		}
	case isOf(x.kind, "Base"):
		x.kids[0] = r.list("T")
	case isOf(x.kind, "Call New"):
		x.kids[1] = r.list("T")
	case isOf(x.kind, "Program Block Namespace"):
		r.statements(x)
	}
	switch {
	case isOf(x.kind, "Param") && x.num > api.Optional:
		x.num, _ = strconv.Atoi(r.pick("2 3 4 5 6 7"))
	case isOf(x.kind, "Param"):
		x.num = r.choose(2)
	case isOf(x.kind, "Field"):
		x.num = api.Readonly * r.choose(2)
	}
}

// statements makes other Interfaces and Aliases; none ahead of all, since there a Super may have to stand.
func (r typer) statements(x *thing) {
	forTypes := func(k *thing) bool { return isOf(k.kind, "Interface Alias") }
	x.kids = slices.DeleteFunc(x.kids, func(k *thing) bool {
		return forTypes(k) || k.kind == api.Export && forTypes(k.kids[0])
	})
	for range r.choose(3) {
		s := r.fill("Interface/Alias", 2)
		if x.kind == api.Namespace && r.choose(2) == 0 {
			s = &thing{kind: api.Export, kids: []*thing{s}}
		}
		x.kids = slices.Insert(x.kids, min(len(x.kids), 1+r.choose(len(x.kids)+1)), s)
	}
}

// another is a program with the same Strip and other types.
func (g *grower) another(t *testing.T, x api.Tree) api.Tree {
	t.Helper()
	uses, _, _ := bind.Program(x)
	y, things := lay(thingOf(x, 0))
	r := typer{g, map[*thing]bool{}}
	s := newSlow(t, x, uses)
	for n := range y.Nodes {
		if _, ok := s.constEnum(n); ok {
			r.cases[things[n]] = true
		}
	}
	made, _ := lay(r.retyped(things[0], rigid))
	if n, e := tree.Check(made); e != api.OK {
		t.Fatalf("no tree: %d\n%s", n, told(made))
	}
	a, _ := core.Strip(x)
	b, _ := core.Strip(made)
	if !tree.Same(a, b) {
		t.Fatalf("other Strips:\n%s\n%s", told(a), told(b))
	}
	return made
}

// P13.3: types steer nothing: programs by chance and ones with other types and the same Strips.
func TestTypesSteerNothing(t *testing.T) {
	g := newGrower(3)
	for n := range 600 {
		x, ok := g.good(t, 3+n%4, map[string]int{})
		if !ok {
			continue
		}
		want, _ := agrees(t, "by chance", x)
		for range 3 {
			y := g.another(t, x)
			got, why := agrees(t, "with other types", y)
			if got.err != api.OK || !tree.Same(got.left, want.left) {
				t.Fatalf("%v %s: %s\n%s, not\n%s", got.err, why, told(y), told(got.left), told(want.left))
			}
		}
	}
}

// P13.3: texts with Same Strips.
func TestSameStrips(t *testing.T) {
	for _, l := range [][]string{
		{"let x = 1;", "let x: number = 1;", "type T = 1; let x = (1 as any)!;", "interface I {} let x: I = 1; type U = I;"},
		{"class C { constructor(public a) {} }", "class C { constructor(readonly a) {} }", "class C<T> implements I { b; constructor(public readonly a?: T) {} }"},
		{"const enum E { A } print(E.A);", "const enum E { A } print(E.A!);", "type T = E; const enum E { A } print<E>(E.A as E.A);"},
		{"namespace N { export const a = 1; }", "namespace N { export type T = 1; export const a: T = 1; interface I {} }"},
		{"function f(a, b) { return a; } f(1);", "function f<T>(a?: T, b?): T { return a!; } f<number>(1 as number);"},
	} {
		want, _ := agrees(t, l[0], read(t, l[0]))
		strip, _ := core.Strip(read(t, l[0]))
		for _, text := range l {
			x := read(t, text)
			if s, _ := core.Strip(x); !tree.Same(s, strip) {
				t.Fatalf("%s: another Strip", text)
			}
			if got, _ := agrees(t, text, x); got.err != api.OK || !tree.Same(got.left, want.left) {
				t.Errorf("%s: %v, %s, not %s", text, got.err, told(got.left), told(want.left))
			}
		}
	}
}
