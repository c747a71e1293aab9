package machine_test

import "testing"

// P17.1: an As and a Bang are begun, and are their kid, wherever an expression may stand.
func TestThrough(t *testing.T) {
	gives(t,
		done("print(1 as any, 2!, (3 as T)!, ((4 as any)! as A.B<C>[])!!);", "1 2 3 4"),
		done("let x = 1; x = (x as any) + x!; print(x!); (x as any); x!; print(-x!, typeof (x as string));", "2\n-2 number"),
		done("let o = {a: {b: 1}}; o.a!.b = 2; (o as any).a.b += 3; (o!.a as T)!.b *= 2; print(o);", "{a: {b: 10}}"),
		done("let l = [1]; l![0] = 2; (l as any)[(0 as any)!] += 1; print(l, l![0]!, (l as any).length!);", "[3] 3 1"),
		done("print(null! === null, `a${1 as any}${2!}`, [1 as any, 2!], {a: 1 as any, b: 2!}, (1 as any) ? 2! : 3!);", "true a12 [1, 2] {a: 1, b: 2} 2"),
		done("const f = (x: any) => x!; const g = (x?) => { return x as any; }; print(f(1), g(2), ((x) => x as any)(3));", "1 2 3"),
		done("for (const x of [1, 2]! as any) { print(x!); } for (let i = 0 as any; (i < 1) as any; (i += 1)!) { print(i); } while (false as any) {} if (true!) { print(3); }", "1\n2\n0\n3"),
		throws("throw (5 as any)!;", "5", ""),
		throws("(null as any).a;", "TypeError: no members", ""),
		throws("print(1)!(2);", "TypeError: no function", "1"),
	)
	wants(t,
		costs{"1 as any;", 3, 2}, costs{"1!;", 3, 2}, costs{"((1 as any)! as T)!;", 6, 2}, costs{"1!!!;", 5, 2}, costs{"[1 as any, 2!];", 6, 5}, costs{"-(1 as any) + 2!;", 7, 2},
		costs{"let x: any = 1 as any; x = x! as any;", 8, 2}, costs{"let o = {}; o!.a = 1 as any;", 8, 4}, costs{"let l = []; (l as any)[0!] = 1;", 9, 4},
	)
}

// P17.1: where they are called, an As and a Bang are looked through: a Member, an Index and a SuperMember within them tell this.
func TestCalledThrough(t *testing.T) {
	const thing = "class A { v = 1; m(x) { return [this === undefined ? 0 : this.v, x]; } } class B extends A { k(x) { return [super.m(x), (super.m as any)(x), super.m!(x), ((super.m! as T)!)(x), (1 ? super.m : 1)(x)]; } } const b = new B(); const f = b.m; "
	gives(t,
		done(thing+"print(b.m(1), b.m!(2), (b.m as any)(3), ((b.m! as any)! as T)(4), b!.m(5), (b as any).m!(6));", "[1, 1] [1, 2] [1, 3] [1, 4] [1, 5] [1, 6]"),
		done(thing+`print(b["m"](1), b["m"]!(2), (b["m"] as any)(3), ((b["m"]! as any)! as T)(4), b!["m" as any](5));`, "[1, 1] [1, 2] [1, 3] [1, 4] [1, 5]"),
		done(thing+"print(b.k(7));", "[[1, 7], [1, 7], [1, 7], [1, 7], [0, 7]]"),
		done(thing+"print(f(1), f!(2), (f as any)(3), (f! as any)!(4), (1 ? b.m : 1)(5), ((1 && b.m) as any)(6), ((() => b.m)() as any)!(7));", "[0, 1] [0, 2] [0, 3] [0, 4] [0, 5] [0, 6] [0, 7]"),
		done("const l = [1]; print(l.push(2), l.push!(3), (l.push as any)(4), ((l.push! as T)!)(5, 6), l!.push(), (l as any).push!(7), l);", "2 3 4 6 6 7 [1, 2, 3, 4, 5, 6, 7]"),
		throws(`const l = [1]; try { (1 && l.push)(2); } catch (e) { print(e, l); } try { (l["push"] as any)(2); } catch (e) { print(e, l); } const p = l.push; (p as any)!(2);`, "TypeError: no function", "TypeError: no function [1]\nTypeError: no function [1]"),
		done("const o = {push: (x) => [x], m: print}; print((o.push as any)(1), o.push!(2)); (o.m as any)(3); (print as any)!(4);", "[1] [2]\n3\n4"),
		done(tracing+"const o = {m: (a, b) => [a, b]}; print((t(o)!.m as any)!(t(1) as any, t(2)!));", "{m: function}\n1\n2\n[1, 2]"),
		throws(tracing+"(t(5) as any)!(t(1));", "TypeError: no function", "5\n1"),
		throws(tracing+"(t(null).m as any)(t(1));", "TypeError: no members", "null"),
		done("print((input as any)(), (input!)(), (print as any)(1), input!());", "1\np q undefined null"),
	)
	wants(t,
		costs{"(print as any)();", 4, 2}, costs{"print!();", 4, 2}, costs{"((print! as T)!)();", 6, 2}, costs{"({m: print}).m!();", 6, 4}, costs{"(({m: print}).m! as any)(1);", 8, 4}, costs{"([print][0] as any)(1);", 8, 4}, costs{"([].push as any)(1);", 6, 4}, costs{"[].push!!();", 6, 3},
		costs{"class A { m() {} } class B extends A { m() { (super.m as any)!(); } } new B().m();", 14, 11},
	)
}

// P17.1: what is for types is nothing, wherever it may stand.
func TestTypes(t *testing.T) {
	gives(t,
		done("interface I<T> extends J, K.L<T> { a: number; m(x: T, y?: (z: any) => T): void } type T = 1; type U<V, W> = { a?: V[] } | null; print(1);", "1"),
		done("{ interface I {} type T = I; } function f() { interface I {} type T = I; return 2; } if (1) { type T = 1; } for (const x of [1]) { interface I {} } print(f());", "2"),
		done("function f<T, U>(a: T, g: (x: any, y?: (z) => T) => U, b?: T): (x: any, y) => T { return [a, g, b]; } print(f<number, (x: any) => void>(1, 2, 3), f(4));", "[1, 2, 3] [4, undefined, undefined]"),
		done("const f = <T>(a: (x) => T, b?: T, c?) => [a, b, c]; const g = (a: (x: (y) => any, z) => any) => a; print(f<any>(1, 2, 3));", "[1, 2, 3]"),
		done("class A<T, U> implements I, J.K<T> { m<V>(f: (x: V, y) => T, a: V, b?: U): (z) => V { return [f, a, b]; } constructor(f: (x) => any, a: T) { print(f, a); } } class B<T> extends A<T, T[]> implements I {} print(new B<number>(1, 2).m<any>(3, 4, 5));", "1 2\n[3, 4, 5]"),
		done("class A<T> { a: (x, y) => any = 1; readonly b: T; c; readonly d: { m(q: T): void; n?: true } | \"x\" | -1 | null = 2; e: A.B<T>[]; readonly f; g = 3; } print(new A<(x) => void>());", "{a: 1, d: 2, g: 3}"),
		done("class A { c; readonly d; } class B extends A { c = 1; d: any; constructor() { super(); this.d = 2; } } print(new A(), new B());", "{} {c: 1, d: 2}"),
		done("let a: (x, y) => any = 1; const b: { m(x: any, y: (z) => any): any } = 2; for (let i: (x) => any = 3; i < 4; i += 1) { let c: (x) => any = i; print(a, b, c, i); }", "1 2 3 3"),
	)
}
