package core_test

import (
	"testing"

	"shuck/api"
	"shuck/core"
	"shuck/tree"
)

// stripped is what Strip makes of a tree that it must take; the answer is a tree that chapter 3 takes.
func stripped(t *testing.T, x api.Tree) api.Tree {
	t.Helper()
	s, e := core.Strip(x)
	if e != api.OK {
		t.Fatalf("Strip of %s: %v", tell(x), e)
	}
	if n, e := tree.Check(s); e != api.OK {
		t.Fatalf("Strip of %s is no tree: %d of %v", tell(x), n, s)
	}
	return s
}

// P5.2: texts, and a text that has the tree that is left.
func TestStripTexts(t *testing.T) {
	for _, c := range []struct{ text, want string }{
		// Nothing goes.
		{"", ""},
		{"let x = 1; const y = [a, {b: c}, `d${e}f`];", "let x = 1; const y = [a, {b: c}, `d${e}f`];"},
		{"if (a) {} else if (b) { ; } else { throw c; }", "if (a) {} else if (b) { ; } else { throw c; }"},
		// An As, a Bang: one, one within the other, behind and ahead of everything.
		{"x as A;", "x;"},
		{"x!;", "x;"},
		{"let x: A = (y as B)!;", "let x = y;"},
		{"((x! as A)! as B as C)!!;", "x;"},
		{"(x as A).y!.z![w!]!(v as B);", "x.y.z[w](v);"},
		{"(a as A).b = c!;", "a.b = c;"},
		{"-(a as A) + !b! * (typeof c!);", "-a + !b * (typeof c);"},
		{"a! ? b! : c as C;", "a ? b : c;"},
		{"`a${b as B}c${d!}e`;", "`a${b}c${d}e`;"},
		{"[a!, {b: c!, d}];", "[a, {b: c, d}];"},
		{"((x) => x!)!;", "((x) => x);"},
		{"if (a!) {} while (a!) {} for (let i = a!; b!; c!) { d!; } for (const x of y!) {}", "if (a) {} while (a) {} for (let i = a; b; c) { d; } for (const x of y) {}"},
		{"throw a!;", "throw a;"},
		{"function f() { return a!; }", "function f() { return a; }"},
		{"try { a!; } catch (e) { b!; } finally { c!; }", "try { a; } catch (e) { b; } finally { c; }"},
		{"class C extends B { constructor(a) { super(a!); super.m(b!); this.c!; } }", "class C extends B { constructor(a) { super(a); super.m(b); this.c; } }"},
		// Interface, Alias, Export of one of these.
		{"interface I {}", ""},
		{"type T = 1;", ""},
		{"interface I<A> extends J, K<A> { a: A; m(b?: B): C } x;", "x;"},
		{"x; type T<A> = A | B[]; y;", "x; y;"},
		{"interface I {} interface J {} x; type T = 1; type U = 1;", "x;"},
		{"{ interface I {} x; type T = 1; }", "{ x; }"},
		{"{ { interface I {} } type T = 1; }", "{ {} }"},
		{"function f() { type T = 1; return 1; }", "function f() { return 1; }"},
		{"let f = () => { interface I {} };", "let f = () => {};"},
		{"class C { m() { type T = 1; } constructor() { type T = 1; } }", "class C { m() {} constructor() {} }"},
		{"if (a) { type T = 1; } else { type T = 1; } while (a) { type T = 1; } for (;;) { type T = 1; }", "if (a) {} else {} while (a) {} for (;;) {}"},
		{"try { type T = 1; } catch (e) { type T = 1; } finally { type T = 1; }", "try {} catch (e) {} finally {}"},
		{"namespace N { interface I {} type T = 1; x; }", "namespace N { x; }"},
		{"namespace N { export interface I {} export type T = 1; }", "namespace N {}"},
		{"namespace N { export namespace M { export type T = 1; type U = 1; } }", "namespace N { export namespace M {} }"},
		{"type T = 1; namespace N { export interface I {} export const a: T = 1; }", "namespace N { export const a = 1; }"},
		// Exports of what stays.
		{"namespace N { export const a: A = b!; export function f<T>(a?: T): T {} export class C<T> { x; } export enum E { A = 1 } export namespace M {} }", "namespace N { export const a = b; export function f(a) {} export class C {} export enum E { A = 1 } export namespace M {} }"},
		// Enums, Const ones too; what their members are worth.
		{"enum E { A, B = 1 as T, C = (A! | B) } const enum F {}", "enum E { A, B = 1, C = (A | B) } const enum F {}"},
		// Lists of TypeParams, of types, of a Class's TypeNames; places of types.
		{"function f<A, B>(a: A, b?: B): C {}", "function f(a, b) {}"},
		{"let f = <A>(a: A, b?) => a;", "let f = (a, b) => a;"},
		{"f<A>((x?: B) => x as C);", "f((x) => x);"},
		{"f<A, B<C>, D[], {e: F}, (g: H) => I, 1 | 'j'>(k);", "f(k);"},
		{"new A<B>(c!); new A.B.C<D, E>();", "new A(c); new A.B.C();"},
		{"class C<A, B> extends D<A> implements E, F.G<H> {}", "class C extends D {}"},
		{"class C { m<T>(a?: T): T { return a!; } }", "class C { m(a) { return a; } }"},
		{"let a: A = 1; const b: B = 2; for (let i: C = 0;;) {}", "let a = 1; const b = 2; for (let i = 0;;) {}"},
		// Fields.
		{"class C { a; b: B; readonly c; readonly d: D; }", "class C {}"},
		{"class C { a = 1; b: B = 2; readonly c = 3; readonly d: D = 4; }", "class C { a = 1; b = 2; c = 3; d = 4; }"},
		{"class C { a; b = 1; c; m() {} d: D; constructor() {} e; }", "class C { b = 1; m() {} constructor() {} }"},
		{"class C { a: A = b as C; c = undefined; d = undefined!; }", "class C { a = b; c = undefined; d = undefined; }"},
		// Params: Optional goes, Public stays, and Readonly makes one Public.
		{"class C { constructor(a, b?, c: A, d?: A) {} }", "class C { constructor(a, b, c, d) {} }"},
		{"class C { constructor(public a, public b?, public c: A, public d?: A) {} }", "class C { constructor(public a, public b, public c, public d) {} }"},
		{"class C { constructor(readonly a, readonly b?, public readonly c: A, public readonly d?) {} }", "class C { constructor(public a, public b, public c, public d) {} }"},
	} {
		if s, want := stripped(t, read(t, c.text)), read(t, c.want); !tree.Same(s, want) {
			t.Errorf("%q: %s, want %s", c.text, tell(s), tell(want))
		}
	}
}

// P5.2: what is left, with the At of each node, which is here its number in what was handed in, and 100.
func TestStripAt(t *testing.T) {
	for _, c := range []struct{ text, want string }{
		{"x;", "Program@100 [Eval@101 [Name x@102]]"},
		{"x as A;", "Program@100 [Eval@101 [Name x@103]]"},
		{"(x! as A)!;", "Program@100 [Eval@101 [Name x@105]]"},
		{"let x: A = (y as B)!;", "Program@100 [Var x@101 [-@102, Name y@106]]"},
		{"let x = y;", "Program@100 [Var x@101 [-@102, Name y@103]]"},
		{"type T = 1; x; interface I {} y;", "Program@100 [Eval@104 [Name x@105], Eval@110 [Name y@111]]"},
		{"{ type T = 1; { x; } }", "Program@100 [Block@101 [Block@105 [Eval@106 [Name x@107]]]]"},
		{"namespace N { export type T = 1; export const a: A = 1; }", "Program@100 [Namespace N@101 [Export@106 [Var a 1@107 [-@108, Num 1@110]]]]"},
		{"enum E { A, B = 1! }", "Program@100 [Enum E@101 [EnumMember A@102 [-@103], EnumMember B@104 [Num 1@106]]]"},
		{"function f<T>(a?: T): T {}", "Program@100 [Func f@101 [L@102, L@104 [Param a@105 [-@106]], -@108, Block@110]]"},
		{"let f = <T>(a: T) => a!;", "Program@100 [Var f@101 [-@102, Arrow@103 [L@104, L@106 [Param a@107 [-@108]], Name a@111]]]"},
		{"f<A, B>(c!);", "Program@100 [Eval@101 [Call@102 [Name f@103, L@104, L@109 [Name c@111]]]]"},
		{"new A.B<C>(d);", "Program@100 [Eval@101 [New@102 [Member B@103 [Name A@104], L@105, L@108 [Name d@109]]]]"},
		{"class C<T> extends B<T> implements I { x: T; y: T = 1; m<U>(a?): U {} constructor(readonly z?: T) {} }",
			"Program@100 [Class C@101 [L@102, Base B@104 [L@105], L@108, L@111 [" +
				"Field y@116 [-@117, Num 1@119], Method m@120 [L@121, L@123 [Param a@124 [-@125]], -@126, Block@128], " +
				"Ctor@129 [L@130 [Param z 2@131 [-@132]], Block@134]]]]"},
		{"class C { readonly x = 1; }", "Program@100 [Class C@101 [L@102, -@103, L@104, L@105 [Field x@106 [-@107, Num 1@108]]]]"},
	} {
		if s := tell(stripped(t, numbered(read(t, c.text), 100))); s != c.want {
			t.Errorf("%q:\n%s, want\n%s", c.text, s, c.want)
		}
	}
}

// P5.2: a Param's marks, all of them together; where only a constructor's may have them.
func TestStripParams(t *testing.T) {
	x := newTable()
	for num := range 8 {
		want := 0
		if num&api.Public != 0 || num&api.Readonly != 0 {
			want = api.Public
		}
		p := func(num int) thing { return thing{"Param", "p", num, 0, []thing{{word: "-"}}} }
		of := func(num int) api.Tree {
			ctor := thing{word: "Ctor", kids: []thing{{word: "L", kids: []thing{p(num)}}, {word: "Block"}}}
			return x.treeOf(thing{word: "Program", kids: []thing{{word: "Class", text: "C", kids: []thing{{word: "L"}, {word: "-"}, {word: "L"}, {word: "L", kids: []thing{ctor}}}}}})
		}
		if s := stripped(t, of(num)); !equal(s, of(want)) {
			t.Errorf("a Param's Num %d: %s, want %d", num, tell(s), want)
		}
	}
}

// P5.2: the example of the chapter, as it stands there.
func TestStripExample(t *testing.T) {
	of := func(word, text string, num int, kids ...thing) thing { return thing{word, text, num, 0, kids} }
	list, none := of("L", "", 0), of("-", "", 0)
	y := of("Field", "y", 0, none, of("Num", "", 1))
	ctor := of("Ctor", "", 0, of("L", "", 0, of("Param", "z", api.Public, none)), of("Block", "", 0))
	want := of("Program", "", 0, of("Class", "C", 0, list, none, list, of("L", "", 0, y, ctor)))
	s := stripped(t, read(t, "interface I {} class C<T> implements I { x: T; y: T = 1; constructor(readonly z?: T) {} }"))
	if !tree.Same(s, newTable().treeOf(want)) {
		t.Errorf("%s, want %s", tell(s), newTable().told(want))
	}
}

// P5.2: roots: every expression and the Program; an As and a Bang at the root are what they are about.
func TestStripRoots(t *testing.T) {
	g := newGrower(7)
	for _, r := range rows() {
		for range 20 {
			x := g.treeOf(g.grow(r.word, 2))
			if r.word == "Program" || has(expressions, r.word) {
				stripped(t, x)
				continue
			}
			if s, e := core.Strip(x); e != api.ErrTree || s.Nodes != nil {
				t.Errorf("Strip of a %s: %v, %v, want ErrTree and nothing", r.word, s, e)
			}
		}
	}
	of := func(word string, at int, kids ...thing) thing { return thing{word: word, at: at, kids: kids} }
	name, typed := thing{word: "Name", text: "a", at: 5}, thing{word: "TypeNum", at: 9}
	for _, root := range []thing{
		of("As", 1, name, typed),
		of("Bang", 2, name),
		of("As", 1, of("Bang", 2, name), typed),
		of("Bang", 2, of("As", 1, name, typed)),
		of("Bang", 2, of("Bang", 2, name)),
		of("As", 2, of("As", 1, name, typed), typed),
	} {
		if s := tell(stripped(t, g.treeOf(root))); s != "Name a@5" {
			t.Errorf("Strip of %s: %s", g.told(root), s)
		}
	}
}

// P5.2: what chapter 3 refuses is refused, with nothing.
func TestStripRefused(t *testing.T) {
	for _, c := range refused() {
		if s, e := core.Strip(c.x); e != api.ErrTree || s.Nodes != nil {
			t.Errorf("Strip of %s: %v, %v, want ErrTree and nothing", c.about, s, e)
		}
	}
}

// P5.2: trees by chance, against the chapter's words gone through slowly.
func TestStripByChance(t *testing.T) {
	x := newTable()
	for _, y := range grown(400, 4) {
		r := x.thingOf(y.Nodes, 0)
		if r.word != "Program" && !has(expressions, r.word) {
			continue
		}
		if s, want := stripped(t, y), x.treeOf(x.strip(r)); !equal(s, want) {
			t.Fatalf("Strip of %s:\n%s, want\n%s", tell(y), tell(s), tell(want))
		}
	}
}
