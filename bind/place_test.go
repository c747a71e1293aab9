package bind_test

import (
	"strings"
	"testing"
)

// within lays a text into each place of others, marked by *.
func within(text string, places ...string) []string {
	var l []string
	for _, p := range places {
		l = append(l, strings.ReplaceAll(p, "*", text))
	}
	return l
}

// refused holds a text of a kind, which begins with what must be told, against the places of others.
func refused(t *testing.T, word, text string, places ...string) {
	t.Helper()
	for _, p := range within("@"+text, places...) {
		refuses(t, offence{word, p})
	}
}

// inner are the places of statements that change nothing about them, but that a loop may be among them.
func inner() []string {
	return []string{"*", "{ * }", "{ { * } }", "if (1) { * }", "if (1) {} else { * }", "if (1) {} else if (1) { * }", "try { * } finally {}", "try {} catch (e) { * }", "try {} finally { * }"}
}

// loops are the places of statements in a loop.
func loops() []string {
	return []string{"while (1) { * }", "for (; ; ) { * }", "for (let i = 0; i; i) { * }", "for (const x of print) { * }", "for (let x of print) { * }"}
}

// P7.1, 5: a Return stands in a function's body.
func TestReturn(t *testing.T) {
	functions := []string{"function f() { * }", "() => { * };", "class C { m() { * } }", "class C { x = () => { * }; }", "print(() => { * });", "namespace N { function f() { * } }", "namespace N { export function f() { * } }", "namespace N { () => { * }; }",
		"class C { constructor() { () => { * }; } }", "class C { constructor() { function f() { * } } }", "class C { constructor() { class D { m() { * } } } }", "enum E { A = () => { * } }", "function f() { namespace N { () => { * }; } }", "class C extends print { constructor() { super(() => { * }); } }"}
	for _, place := range append(inner(), loops()...) {
		for _, f := range functions {
			takes(t, within("return;", within(place, f)...)...)
			takes(t, within("return 1;", within(place, f)...)...)
			takes(t, within("return undefined;", within(place, f)...)...)
		}
		for _, text := range []string{"return;", "return 1;"} {
			refused(t, "Return", text, place)
			refused(t, "Return", text, within(place, "namespace N { * }", "function f() { namespace N { * } }", "class C { m() { namespace N { * } } }", "class C { constructor() { namespace N { * } } }", "() => { namespace N { namespace M { * } } };", "function f() { namespace N { function g() {} * } }")...)
			refused(t, "Return", text, "function f() {} "+place, "() => {}; "+place, "class C { m() {} } "+place)
		}
		// A Ctor's has no value.
		ctors := within(place, "class C { constructor() { * } }", "class C extends print { constructor() { super(); * } }", "() => { class C { constructor(a) { * } } };")
		takes(t, within("return;", ctors...)...)
		refused(t, "Return", "return 1;", ctors...)
		refused(t, "Return", "return undefined;", ctors...)
	}
}

// P7.1, 6: a Break and a Continue stand in a loop within the innermost function or Namespace.
func TestBreak(t *testing.T) {
	functions := []string{"function f() { * }", "() => { * };", "class C { m() { * } }", "class C { constructor() { * } }", "namespace N { * }", "class C { x = () => { * }; }", "enum E { A = () => { * } }"}
	for word, text := range map[string]string{"Break": "break;", "Continue": "continue;"} {
		for _, place := range inner() {
			refused(t, word, text, place)
			refused(t, word, text, within(place, functions...)...)
			for _, loop := range loops() {
				l := within(place, loop)
				takes(t, within(text, l...)...)
				takes(t, within(text, within(l[0], functions...)...)...)
				takes(t, within(text, within(within(loop, place)[0], functions...)...)...)
				takes(t, within(text, within(l[0], loops()...)...)...)
				// Behind the loop, and in a function or a Namespace within it.
				refused(t, word, text, within("", loop)[0]+" "+place)
				refused(t, word, text, within(within(place, functions...)[0], loop)...)
				for _, f := range functions {
					refused(t, word, text, within(within(place, f)[0], loop)...)
				}
			}
		}
		// What a loop has beside its Block.
		refused(t, word, text, "while (() => { * }) {}", "for (let i = () => { * }; ; ) {}", "for (; () => { * }; ) {}", "for (; ; () => { * }) {}", "for (const x of () => { * }) {}")
		takes(t, within(text, "while (1) { () => { while (1) { * } }; * }", "while (1) { namespace N { for (; ; ) { * } } * }", "while (1) { class C { m() { while (1) { * } } } * }")...)
	}
}

// P7.1, 7: a This is that of a Method, a Ctor or the value of a Field, through Arrows.
func TestThis(t *testing.T) {
	owners := []string{"class C { m() { * } }", "class C { constructor() { * } }", "class C { x = () => { * }; }", "class C { x = [() => { * }]; }", "class C extends print { m() { * } }", "class C extends print { constructor() { super(); * } }", "namespace N { class C { m() { * } } }", "namespace N { export class C { constructor() { * } } }", "function f() { class C { m() { * } } }", "() => { class C { m() { * } } };"}
	others := []string{"*", "function f() { * }", "() => { * };", "() => { () => { * }; };", "namespace N { * }", "namespace N { () => { * }; }", "namespace N { function f() { * } }", "function f() { () => { * }; }", "enum E { A = () => { * } }"}
	for _, place := range append(inner(), loops()...) {
		for _, text := range []string{"this;", "this.x = 1;", "print(this);", "() => this;", "() => { () => [this.x]; };", "let y = this;", "[`${this}`];", "class D extends print { constructor() { super(this); } }"} {
			for _, o := range owners {
				takes(t, within(text, within(place, o)...)...)
			}
		}
		for _, text := range []string{"@this;", "print(@this);", "() => @this;", "() => { () => [@this]; };", "let y = @this;", "function h() { @this; }"} {
			for _, o := range others {
				refuses(t, offence{"This", within(text, within(place, o)...)[0]})
				// So within an owner, if a Func or a Namespace is between.
				if strings.Contains(o, "function") || strings.Contains(o, "namespace") {
					for _, owner := range owners {
						refuses(t, offence{"This", within(text, within(within(place, o)[0], owner)...)[0]})
						refuses(t, offence{"This", within(text, within(within(o, place)[0], owner)...)[0]})
					}
				}
			}
		}
	}
	takes(t, "class C { x = this; }", "class C { x = [this.y]; y = () => this; z = `${this}`; }", "class C { m() { namespace N { class D { x = this; m() { this; } } } } }", "class C { m() { function f() { class D { x = this; } } } }",
		"class C { m() { class D { x = this; n() { () => this; } } this; } }", "class C { x = () => () => { return this; }; }", "class C { x = (this as T); y = this!; }")
	refuses(t, offence{"This", "@this;"}, offence{"This", "class C { } @this;"}, offence{"This", "class C { m() { function f() { () => @this; } } }"}, offence{"This", "class C { m() { namespace N { @this; } } }"},
		offence{"This", "class C { m() { () => { namespace N { @this; } }; } }"}, offence{"This", "class C { m() { namespace N { () => @this; } } }"}, offence{"This", "class C { x = () => { namespace N { () => { @this; }; } }; }"},
		offence{"This", "class C { x = () => { function f() { @this; } }; }"}, offence{"This", "enum E { A = @this }"}, offence{"This", "function f() { return @this; }"}, offence{"This", "for (const x of @this) {}"}, offence{"This", "for (let x = @this; ; ) {}"},
		offence{"This", "while (@this) {}"}, offence{"This", "class C { m() { this; } } @this;"})
}

// P7.1, 8: a SuperMember stands where a This may, and its class has a Base.
func TestSuperMember(t *testing.T) {
	members := []string{"m() { * }", "constructor() { super(); * }", "x = () => { * };", "x = [() => { * }];", "m() { () => { * }; }"}
	for _, m := range members {
		for _, place := range append(inner(), loops()...) {
			l := within(place, "class C extends print { "+m+" }")
			for _, text := range []string{"super.m();", "super.m;", "print(super.m);", "() => super.m;", "[super.m.n];", "`${super.m}`;"} {
				takes(t, within(text, l...)...)
			}
			based := within(place, within(strings.Replace(m, "super(); ", "", 1), "class C { * }")...)
			refused(t, "SuperMember", "super.m();", based...)
			refused(t, "SuperMember", "super.m();", within(based[0], "class B extends print { n() { * } }")...)
			refused(t, "SuperMember", "super.m();", within(place, "class C extends print { "+within("function f() { * }", m)[0]+" }", "class C extends print { "+within("namespace N { * }", m)[0]+" }", "class C extends print { "+within("namespace N { () => { * }; }", m)[0]+" }")...)
			refused(t, "SuperMember", "super.m();", within(place, "*", "function f() { * }", "() => { * };", "namespace N { * }", "class C extends print { } *")...)
		}
	}
	takes(t, "class C extends print { x = super.x; }", "class C { m() { class D extends print { n() { super.m; } x = super.x; } } }", "class C extends print { constructor() { super(super.m, () => super.m); } }")
	refuses(t, offence{"SuperMember", "@super.m;"}, offence{"SuperMember", "class C { x = @super.x; }"}, offence{"SuperMember", "class C { constructor() { print(@super.x); } }"},
		offence{"SuperMember", "class C extends print { m() { class D { n() { @super.m; } } } }"}, offence{"SuperMember", "class C extends print { m() { class D { x = @super.x; } } }"},
		offence{"SuperMember", "class C extends print { m() { class D { x = () => @super.x; } } }"}, offence{"SuperMember", "enum E { A = @super.x }"})
}
