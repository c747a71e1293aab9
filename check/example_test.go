package check_test

import (
	"testing"

	"shuck/api"
)

// P12.1: the examples of the chapter, with the node that is told.
func TestExamples(t *testing.T) {
	refuses(t,
		offence{"Str", `let x: number = @"a";`},
		offence{"Str", `let x = 1; x = @"a";`},
		offence{"Call", `function id<T>(x: T): T { return x; } let n: number = id(1); let s: string = @id<number>(2);`},
		offence{"Member", `class A { constructor(readonly x: number) {} } let a = new A(1); @a.x = 2;`},
		offence{"TypeName", `interface I { m(x: number): string } class C implements @I { m(x: number): number { return x; } }`},
		offence{"Name", `const enum E { A } let e: E = E.A; let f = @E;`},
		offence{"TypeName", `type L = @L[];`},
		offence{"TypeName", `let x: @Nope = 1;`},
		offence{"TypeName", `function f(): @number {}`},
	)
	takes(t,
		`function f(x: string | number): number { if (typeof x === "string") { return x.length; } return x; }`,
		`type U = {k: "a"; x: number} | {k: "b"}; function g(u: U): number { if (u.k === "a") { return u.x; } return 0; }`,
	)
	hasTypes(t, typed{"Call", `function id<T>(x: T): T { return x; } let n: number = id(1); let s: string = @id<number>(2);`, "number"})
}

// P12.1: the smallest programs.
func TestSmallest(t *testing.T) {
	takes(t, "", ";", "{}", "interface I {}", "type A = number;")
	x := api.Tree{Nodes: []api.Node{{Kind: api.Program}}}
	if c := program(t, x); c.Err != api.OK || c.Node != -1 || len(c.Types) != 1 || c.Types[0] != "" {
		t.Error(c)
	}
}
