package bind_test

import (
	"testing"

	"shuck/api"
)

// ways are texts that offend each in one way by itself, with the mark ahead of the node that is told.
func ways() []offence {
	return []offence{
		{"Var", "{ let a1 = 1; @let a1 = 2; }"}, {"Func", "(a1) => { @function a1() {} };"}, {"Param", "(a1, @a1) => 1;"},
		{"Name", "@a2;"}, {"Base", "class A2 @extends a2 {}"},
		{"Name", "{ @a3; let a3 = 1; }"}, {"Base", "{ class A3 @extends A3 {} }"},
		{"Assign", "@print = 1;"},
		{"Return", "@return;"}, {"Return", "class A5 { constructor() { @return 1; } }"},
		{"Break", "@break;"}, {"Continue", "@continue;"},
		{"This", "@this;"},
		{"SuperMember", "@super.m;"}, {"SuperMember", "class A8 { m() { @super.m; } }"},
		{"Super", "@super();"}, {"Ctor", "class A9 extends print { @constructor() {} }"},
	}
}

// P7.1: where several nodes offend, whatever the ways, the least number is told.
func TestLeastIsTold(t *testing.T) {
	for _, first := range ways() {
		for _, second := range ways() {
			behind := ""
			for _, r := range second.text {
				if r != '@' {
					behind += string(r)
				}
			}
			refuses(t, offence{first.word, "{ " + first.text + " } { " + behind + " }"}, offence{first.word, first.text + " namespace N { " + behind + " }"})
		}
	}
	refuses(t,
		// A declaration ahead of what offends behind it, a use ahead of the declaration that offends.
		offence{"Var", "let x = 1; @let x = y;"}, offence{"Name", "let x = @y; let x = 1;"}, offence{"Name", "let x = 1; @y; let x = 1;"},
		// An Assign ahead of its Name and its value; a Ctor ahead of what stands in it; a Class ahead of its Base.
		offence{"Assign", "@print = y;"}, offence{"Assign", "@x = x; const x = 1;"}, offence{"Ctor", "class C extends print { @constructor() { return 1; } }"}, offence{"Class", "let C = 1; @class C extends D {}"}, offence{"Base", "class C @extends D { constructor() {} }"},
		offence{"Ctor", "class C extends print { @constructor(a, a) { this; super(); } }"}, offence{"Param", "class C extends print { m(a, @a) {} constructor() {} }"}, offence{"Super", "@super(this);"}, offence{"Super", "@super(a);"}, offence{"Return", "@return this;"}, offence{"Func", "let f = 1; @function f(a, a) {}"},
		// What is found last may be told first.
		offence{"Name", "@x; return; let y = 1; let y = 2;"}, offence{"Name", "{ { @x; } break; } this;"}, offence{"Name", "function f() { @x; { this; } } return;"}, offence{"Name", "() => { @x; return 1; }; let a = 1; let a = 2;"}, offence{"Name", "@x; { let x = 1; let x = 2; }"},
		offence{"Name", "{ @x; let a = 1; let a = 2; } let x = 1;"}, offence{"Assign", "{ @f = 1; let a = 1; let a = 2; } function f() {}"},
		offence{"Return", "{ @return; x; }"}, offence{"Var", "let a = 1; @let a = 2; x; this; return; break; super(); super.m; print = 1;"},
	)
}

// P7.1: all ways at one place, from the last to the first.
func TestOneByOne(t *testing.T) {
	x := of("Program [Var a [-, 1], Var a [-, 1], Eval [b], Eval [Assign = [print, 1]], Return [-], Break, Eval [This], Eval [SuperMember m], Eval [Super [L]]]")
	want := []int{4, 8, 10, 13, 15, 17, 19, 21}
	// Each that is told is made harmless, and the next one is told.
	for _, n := range want {
		told(t, "one by one", x, nil, n, api.ErrName)
		x = turned(x, func(l []api.Node) {
			switch l[n].Kind {
			case api.Var:
				l[n].Text = "c"
			case api.Name:
				l[n].Text = "print"
			case api.Assign:
				l[n+1].Text = "a"
			case api.Return:
				l[n].Kind, l[n].Kids, l[n+1].Kind = api.Eval, []int{n + 1}, api.Null
			case api.Break:
				l[n].Kind = api.Empty
			case api.Super:
				l[n].Kind, l[n+1].Kind = api.Bang, api.Null
			default:
				l[n].Kind, l[n].Text = api.Null, ""
			}
		})
	}
	told(t, "in the end", x, []api.Use{{At: 8, Decl: -1}, {At: 11, Decl: 1}}, -1, api.OK)
}
