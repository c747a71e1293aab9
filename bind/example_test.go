package bind_test

import (
	"testing"

	"shuck/api"
)

// P7.1: the chapter's examples, with the numbers of the nodes.
func TestExamples(t *testing.T) {
	for _, c := range []struct {
		text string
		uses []api.Use
		n    int
		e    api.Errno
	}{
		// Program 0, Var 1, None 2, Num 3, Eval 4, Call 5, Name print 6, Lists 7 and 8, Name x 9.
		{"let x = 1; print(x);", []api.Use{{At: 6, Decl: -1}, {At: 9, Decl: 1}}, -1, api.OK},
		{"x; let x = 1;", nil, 2, api.ErrName},
		{"let x = x;", nil, 3, api.ErrName},
		{"class C extends C {}", nil, 3, api.ErrName},
		// Eval 1, Call 2, Name f 3, Lists 4 and 5, Var 6, None 7, Num 8, Func 9, Lists 10 and 11, None 12, Block 13, Return 14, Name x 15.
		{"f(); let x = 1; function f() { return x; }", []api.Use{{At: 3, Decl: 9}, {At: 15, Decl: 6, Late: true}}, -1, api.OK},
		{"let x = 1; let x = 2;", nil, 4, api.ErrName},
		// Func 1, Lists 2 and 3, Param 4, its None 5, None 6, Block 7, Var 8.
		{"function f(a) { let a = 1; }", nil, 8, api.ErrName},
		{"for (let i = 0; ; ) { let i = 1; }", nil, -1, api.OK},
		// Var 1, None 2, Num 3, Eval 4, Assign 5.
		{"const c = 1; c = 2;", nil, 5, api.ErrName},
		{"return 1;", nil, 1, api.ErrName},
		{"break;", nil, 1, api.ErrName},
		{"this;", nil, 2, api.ErrName},
		{"y;", nil, 2, api.ErrName},
		// Class D 1 to 5, Class C 6, List 7, Base 8, its List 9, Lists 10 and 11, Ctor 12.
		{"class D {} class C extends D { constructor() {} }", nil, 12, api.ErrName},
		{"class D {} class C extends D { constructor() { super(); this.x = 1; } }", []api.Use{{At: 8, Decl: 1}}, -1, api.OK},
		{"", nil, -1, api.OK},
	} {
		told(t, c.text, read(t, c.text), c.uses, c.n, c.e)
	}
}
