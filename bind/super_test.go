package bind_test

import (
	"testing"

	"shuck/api"
)

// P7.1, 9: a Super stands first in the Ctor of a class with a Base, and that Ctor begins with it.
func TestSuper(t *testing.T) {
	takes(t,
		"class C extends print {}", "class C extends print { m() {} x = 1; }", "class C extends print { constructor() { super(); } }", "class C extends print { x = 1; constructor(a) { super(a, this, [1]); a; } m() {} }",
		"class C { constructor() {} }", "class C { constructor() { print(1); } }", "class C extends print { constructor() { super(() => 1); this.x = 1; { ; } } }", "class C extends print { constructor() { super(); class D extends print { constructor() { super(); } } } }",
		"namespace N { export class C extends print { constructor() { super(); } } }", "class C { constructor() { class D extends print { constructor() { super(); } } } }", "class C extends print { constructor() { super(); class D { constructor() {} } } }",
	)
	// The Ctor, whatever stands in the place of its Super or ahead of it.
	for _, block := range []string{
		"", ";", "; super();", "{ super(); }", "this.x = super();", "print(1);", "print(1); super();", "print(super());", "[super()];", "super()!;", "super() as T;", "-super();", "super().x;", "super()();", "1 + super();", "super.m();", "super.m;",
		"let a = super();", "return super();", "return;", "() => super();", "if (1) { super(); } else { super(); }", "while (1) { super(); }", "try { super(); } finally {}", "throw super();", "interface I {} super();", "type T = A; super();", "class D {} super();", "(() => { super(); })();", "this; super();", "undefined; super();",
	} {
		refuses(t, offence{"Ctor", "class C extends print { @constructor() { " + block + " } }"}, offence{"Ctor", "class C extends print { x = 1; @constructor(a, public b) { " + block + " } m() {} }"})
		refuses(t, offence{"Ctor", "class C extends print { constructor() { super(); class D extends print { @constructor() { " + block + " } } } }"})
	}
	// The Super, anywhere else.
	for _, text := range []string{
		"@super();", "{ @super(); }", "print(@super());", "() => @super();", "() => { @super(); };", "function f() { @super(); }", "class C { constructor() { @super(); } }", "class C { m() { @super(); } }", "class C { x = @super(); }", "class C extends print { m() { @super(); } }", "class C extends print { x = @super(); }",
		"class C extends print { constructor() { super(); @super(); } }", "class C extends print { constructor() { super(@super()); } }", "class C extends print { constructor() { super(1, [@super()]); } }", "class C extends print { constructor() { super(); { @super(); } } }", "class C extends print { constructor() { super(); () => { @super(); }; } }",
		"class C extends print { constructor() { super(() => { @super(); }); } }", "class C extends print { constructor() { super(); if (1) { @super(); } } }", "class C extends print { constructor() { super(); namespace N { @super(); } } }", "class C extends print { constructor() { super(); class D { constructor() { @super(); } } } }",
		"namespace N { @super(); }", "enum E { A = @super() }", "class C extends print { constructor() { super(); while (1) { @super(); } } }", "class C extends print { constructor() { super(); try { @super(); } catch (e) {} } }", "class C extends print { m() { () => { @super(); }; } }",
		"class C extends print { constructor() { super(); function f() { @super(); } } }", "class C extends print { x = () => { @super(); }; }", "while (1) { @super(); }", "try { @super(); } finally {}", "for (; ; ) { @super(); }",
	} {
		refuses(t, offence{"Super", text})
	}
}

// P7.1, 9: what stands in a Super's List; the class's Base itself.
func TestSuperUses(t *testing.T) {
	binds(t, "@1class D {} @2let x = 1; class C #1extends D { constructor(@3a) { super(#3a, #2!x, #1!D); #3a; } }")
	refuses(t, offence{"Name", "class C extends print { constructor() { super(@a); } }"}, offence{"Name", "class C extends print { constructor() { super(@a); let a = 1; } }"}, offence{"Base", "class C @extends D { constructor() {} }"})
}

// P7.1, 9: with the numbers of the nodes.
func TestSuperNumbers(t *testing.T) {
	// Program 0, Class 1, List 2, Base 3, its List 4, Lists 5 and 6, Ctor 7, List 8, Block 9, Eval 10, Super 11.
	told(t, "a Super", of("Program [Class C [L, Base print [L], L, L [Ctor [L, Block [Eval [Super [L]]]]]]]"), []api.Use{{At: 3, Decl: -1}}, -1, api.OK)
	told(t, "none", of("Program [Class C [L, Base print [L], L, L [Ctor [L, Block]]]]"), nil, 7, api.ErrName)
	told(t, "no Base", of("Program [Class C [L, -, L, L [Ctor [L, Block [Eval [Super [L]]]]]]]"), nil, 10, api.ErrName)
}
