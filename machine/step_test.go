package machine_test

import (
	"testing"

	"shuck/api"
)

// costs is a program that is done to its end, and the steps and cells that it wants; those of print and input are two.
type costs struct {
	text         string
	steps, cells int
}

// wants holds programs against what they cost, and with less and more of both: where the run ends then.
func wants(t *testing.T, l ...costs) {
	t.Helper()
	for _, c := range l {
		x := read(t, c.text)
		all := agrees(t, c.text, x, nil, plenty, plenty)
		if all.err != api.OK || all.End != api.EndDone || all.Steps != c.steps || all.Cells != c.cells {
			t.Errorf("%s: %d steps and %d cells, not %d and %d: %+v", c.text, all.Steps, all.Cells, c.steps, c.cells, all.short())
			continue
		}
		for fuel := range c.steps + 2 {
			got := agrees(t, c.text, x, nil, fuel, plenty)
			if got.Steps != min(fuel, c.steps) || (got.End == api.EndDone) != (fuel >= c.steps) || (got.End == api.EndFuel) != (fuel < c.steps) {
				t.Errorf("%s with %d steps: %+v", c.text, fuel, got.short())
			}
		}
		for cells := range c.cells + 2 {
			got := agrees(t, c.text, x, nil, plenty, cells)
			if got.Cells != min(cells, c.cells) || (got.End == api.EndDone) != (cells >= c.cells) || (got.End == api.EndHeap) != (cells < c.cells) {
				t.Errorf("%s with %d cells: %+v", c.text, cells, got.short())
			}
		}
	}
}

// P16.1: what is a step of each kind of expression.
func TestStepsOfExpressions(t *testing.T) {
	wants(t,
		costs{"", 0, 2},
		costs{"1;", 2, 2}, costs{`"a";`, 2, 2}, costs{"true;", 2, 2}, costs{"false;", 2, 2}, costs{"null;", 2, 2}, costs{"undefined;", 2, 2}, costs{"print;", 2, 2}, costs{"(1);", 2, 2},
		costs{"`a`;", 2, 2}, costs{"`a${1}`;", 3, 2}, costs{"`${1}b${2}c`;", 4, 2}, costs{"`${`${1}`}`;", 4, 2},
		costs{"[];", 2, 3}, costs{"[1];", 3, 4}, costs{"[1, [2]];", 5, 7},
		costs{"({});", 2, 3}, costs{"({a: 1});", 3, 4}, costs{"({a: 1, b: {c: 2}});", 5, 7}, costs{"({a: 1, a: 2});", 4, 4},
		costs{"() => 1;", 2, 3}, costs{"(a) => { return a; };", 2, 3},
		costs{"-1;", 3, 2}, costs{"!1;", 3, 2}, costs{"~1;", 3, 2}, costs{"typeof 1;", 3, 2},
		costs{"1 + 2;", 4, 2}, costs{"1 + 2 * 3;", 6, 2}, costs{`"a" in {};`, 4, 3},
		costs{"1 && 2;", 4, 2}, costs{"0 && 2;", 3, 2}, costs{"1 || 2;", 3, 2}, costs{"0 || 2;", 4, 2}, costs{"0 || 0 && 1;", 5, 2},
		costs{"1 ? 2 : 3 + 4;", 4, 2}, costs{"0 ? 2 : 3 + 4;", 6, 2},
		costs{"({}).a;", 3, 3}, costs{"[][0];", 4, 3}, costs{"[].length;", 3, 3}, costs{`({})["a"];`, 4, 3},
	)
}

// P16.1: what an Assign assigns to is not begun, but its kids are.
func TestStepsOfAssigns(t *testing.T) {
	wants(t,
		costs{"let x = 1; x = 2;", 5, 2}, costs{"let x = 1; x += 2;", 5, 2},
		costs{"let o = {}; o.a = 2;", 6, 4}, costs{"let o = {a: 1}; o.a += 2;", 7, 4}, costs{"let o = {a: {}}; o.a.b = 2;", 8, 6},
		costs{"let l = []; l[0] = 2;", 7, 4}, costs{"let l = [1]; l[0] *= 2;", 8, 4}, costs{`let o = {}; o["a"] = 2;`, 7, 4},
		costs{"let x = 1; let y = 1; x = y = 2;", 8, 2},
		costs{"({}).a = ([])[0] = 2;", 7, 6},
	)
}

// P16.1: what is a step of calls and makings: a Block that is a function's body is one.
func TestStepsOfCalls(t *testing.T) {
	wants(t,
		costs{"print();", 3, 2}, costs{"input();", 3, 2}, costs{"print(1, 2);", 5, 2}, costs{"print(print());", 5, 2},
		costs{"(() => 1)();", 4, 3}, costs{"(() => {})();", 4, 3}, costs{"(() => { return; })();", 5, 3}, costs{"(() => { return 1; })();", 6, 3},
		costs{"function f() {}", 1, 3}, costs{"function f() {} f();", 5, 3}, costs{"function f(a, b) { return a + b; } f(1, 2);", 11, 3}, costs{"f(); function f() { ; ; }", 7, 3},
		costs{"({m: print}).m();", 5, 4}, costs{`({m: print})["m"]();`, 6, 4}, costs{"[print][0](1);", 7, 4},
		costs{"[].push();", 4, 3}, costs{"[].push(1, 2);", 6, 5},
		costs{"class A {}", 1, 4}, costs{"class A { m() {} }", 1, 6}, costs{"class A { m() {} m() {} k() {} }", 1, 9},
		costs{"class A {} new A();", 4, 5}, costs{"class A {} new A(1, 2);", 6, 5}, costs{"class A { v = 1; w = [2]; } new A();", 7, 9},
		costs{"class A { constructor(a) { ; } } new A(1);", 7, 5},
		costs{"class A {} class B extends A {} new B();", 5, 7}, costs{"class A { v = 1; } class B extends A { w = 2; } new B();", 7, 9},
		costs{"class A {} class B extends A { constructor() { super(); } } new B();", 8, 7}, costs{"class A { v = 1; } class B extends A { w = 2; constructor(a) { super(a, 3); } } new B(0);", 13, 9},
		costs{"class A { m() { return this; } } new A().m();", 9, 7}, costs{"class A { constructor() { this.a = 1; } } new A();", 9, 6},
		costs{"class A { m() {} } class B extends A { m() { super.m; super.m(1); } } new B().m();", 15, 11},
	)
}

// P16.1: what is a step of each kind of statement.
func TestStepsOfStatements(t *testing.T) {
	wants(t,
		costs{";", 1, 2}, costs{"let x = 1;", 2, 2}, costs{"const x = [1];", 3, 4}, costs{"{}", 1, 2}, costs{"{ ; { ; } }", 4, 2},
		costs{"if (1) {}", 3, 2}, costs{"if (0) {}", 2, 2}, costs{"if (1) { ; } else { ; ; }", 4, 2}, costs{"if (0) { ; } else { ; ; }", 5, 2}, costs{"if (0) {} else if (0) {}", 4, 2}, costs{"if (0) {} else if (1) {}", 5, 2}, costs{"if (0) {} else if (0) {} else {}", 5, 2},
		costs{"while (0) {}", 2, 2}, costs{"while (1) { break; }", 4, 2}, costs{"let x = 2; while (x) { x -= 1; }", 14, 2}, costs{"let x = 2; while (x) { x -= 1; continue; }", 16, 2},
		costs{"for (;;) { break; }", 3, 2}, costs{"for (; 0;) {}", 2, 2}, costs{"for (let i = 0; ; ) { break; }", 5, 2}, costs{"for (let i = 0; i < 1; i += 1) {}", 12, 2}, costs{"for (let i = 0; i < 1; i += 1) { continue; }", 13, 2}, costs{"for (let i = 0; i < 1; i += 1) { break; }", 8, 2},
		costs{"for (const x of []) {}", 2, 3}, costs{"for (const x of [1, 2]) {}", 6, 5}, costs{"for (const x of [1, 2]) { break; }", 6, 5}, costs{"for (const x of [1, 2]) { continue; }", 8, 5}, costs{`for (const x of "aé") { ; }`, 6, 2},
		costs{"try {} finally {}", 3, 2}, costs{"try {} catch (e) {}", 2, 2}, costs{"try {} catch (e) {} finally {}", 3, 2}, costs{"try { throw 1; } catch (e) {}", 5, 2}, costs{"try { throw 1; } catch (e) { e; } finally { ; }", 9, 2}, costs{"try { null.a; ; } catch (e) {}", 6, 2},
		costs{"try { try { throw 1; } finally { ; } } catch (e) {}", 9, 2},
	)
}

// P16.1: the Funcs of a scope are made when it is entered, ahead of the first step in it.
func TestFuncsAreMadeAhead(t *testing.T) {
	wants(t,
		costs{"; function f() {}", 2, 3}, costs{"function f() {} function g() {}", 2, 4}, costs{"{ function f() {} }", 2, 3}, costs{"if (0) { function f() {} }", 2, 2},
		costs{"for (const x of [1, 2]) { function f() {} }", 8, 7}, costs{"function f() { function g() {} } f(); f();", 11, 5},
	)
	for text, cells := range map[string]int{
		"1; function f() {} function g() {}": 4, "function f() {}": 3,
	} {
		for _, fuel := range []int{0, 1, plenty} {
			for room := range cells {
				got := agrees(t, text, read(t, text), nil, fuel, room)
				if got.End != api.EndHeap || got.Steps != 0 || got.Cells != room {
					t.Errorf("%s, %d cells: %+v", text, room, got)
				}
			}
		}
		if got := agrees(t, text, read(t, text), nil, 0, cells); got.End != api.EndFuel || got.Cells != cells {
			t.Errorf("%s: %+v", text, got)
		}
	}
	if got := agrees(t, "a Block", read(t, "{ function f() {} }"), nil, 9, 2); got.End != api.EndHeap || got.Steps != 1 {
		t.Error(got)
	}
}

// P16.1: where cells are too few for print and input the run ends at no step, whatever there is to do.
func TestNoRoomForSurroundings(t *testing.T) {
	for _, text := range []string{"", "1;", "print(1);", "function f() {}", "throw 1;", "while (true) {}"} {
		for _, fuel := range []int{0, 1, api.MaxFuel} {
			for cells := range 2 {
				got := agrees(t, text, read(t, text), []string{"p"}, fuel, cells)
				if want := (answer{Outcome: api.Outcome{End: api.EndHeap, Cells: cells}}); !got.is(want) {
					t.Errorf("%s: %+v", text, got)
				}
			}
		}
	}
}
