package source_test

import (
	"slices"
	"testing"

	"turnstile/api"
)

// testSteps holds how many steps the picks of a run take, the last of which takes some: with this fuel and with more the run is not short; with one step less the last leap is not made; with still less others are not made, and with each leap that is made as much is told as without the others.
func testSteps(t *testing.T, text, picks string, steps int) {
	t.Helper()
	p, l := read(t, text), picked(t, picks)
	all := run(p, l, plenty)
	if all.short || all.e != api.OK {
		t.Fatalf("%s: with plenty: %v", text, all)
	}
	for _, fuel := range []int{steps, steps + 1, steps + 2, 2 * steps, api.MaxFuel} {
		testTree(t, text, p, l, fuel, all.String())
	}
	if steps == 1 {
		return
	}
	ahead := run(p, l[:len(l)-1], plenty)
	testTree(t, text, p, l, steps-1, ahead.String()+" short")
	testTree(t, text, p, append(slices.Clone(l), l...), steps-1, ahead.String()+" short")
	for fuel := 1; fuel < steps; fuel++ {
		if got := run(p, l, fuel); !got.short || got.e != api.OK {
			t.Errorf("%s: with the fuel %d of %d: %v", text, fuel, steps, got)
		}
	}
}

// TestStepsOfExpressions holds how many steps each kind of expression is, beside the print's one.
func TestStepsOfExpressions(t *testing.T) {
	for x, steps := range map[string]int{
		"5": 1, "-5": 1, "i": 1, "k": 1, "-i": 2, "!i": 2, "-(5)": 2, "--i": 3, "!-!i": 4,
		"1 + 2": 3, "1 - 2": 3, "1 * 2": 3, "1 / 2": 3, "1 % 2": 3, "1 == 2": 3, "1 != 2": 3, "1 < 2": 3, "1 <= 2": 3, "1 > 2": 3, "1 >= 2": 3, "i + i * i - 1": 7, "nil == nil": 3, "nil != nil": 3,
		// What is not come to is none.
		"0 && 1": 2, "1 && 1": 3, "1 || 1": 2, "0 || 1": 3, "k && i + i + i": 2, "i && i + i + i": 7, "i || i + i + i": 2, "k || i + i + i": 7, "1 && 1 && 1": 5, "0 && 1 && 1": 3, "1 && 0 && 1": 4, "0 || 0 || 0": 5, "1 || 0 || 0": 3, "0 && 1 / 0": 2,
		// A call, its arguments, and then each statement and expression of the function.
		"zero()": 1, "five()": 3, "same(i)": 4, "same(1 + 2)": 6, "same(same(i))": 7, "first(1, 2)": 5, "first(same(1), five())": 10, "same(i) + five()": 8, "twice(1)": 2 + 5 + 3 + 7, "sum(0)": 2 + 1 + 2 + 6, "sum(1)": 2 + 1 + 2*2 + 8 + 6, "sum(2)": 2 + 1 + 3*2 + 2*8 + 6, "0 && five()": 2, "1 || five()": 2, "1 && five()": 5, "-same(five())": 7,
	} {
		testSteps(t, `func zero() int { } func five() int { return 5; } func same(a int) int { return a; } func first(a int, b int) int { return a; } func twice(a int) int { var b int = same(a); five(); return b + same(b); }
			func sum(n int) int { var s int; while n { s = s + n; n = n - 1; } return s + n + 0; } thread { var i int = 2; var k int; print `+x+"; print 1; }", "0", 2+1+1+steps)
	}
}

// TestStepsToAnError holds that what is begun counts, that in the midst of which there is an error too, and nothing that is not come to.
func TestStepsToAnError(t *testing.T) {
	for list, steps := range map[string]int{
		"print 1 / 0;": 4, "print 1 % (2 - 2);": 6, "print 1 / 0 + 2;": 5, "print 2 + 1 / 0;": 6, "print (1 / 0) * (2 + 3);": 5, "print -(1 / 0);": 5, "print 1 / 0 && 2;": 5, "print 1 && 1 / 0;": 6, "print same(1 / 0);": 5, "print first(1 / 0, 2 + 3);": 5, "print first(2 + 3, 1 / 0);": 8, "print 1 / 0 == five();": 5,
		"var z int = 1 / 0;": 4, "var z int; z = 1 / 0;": 5, "if 1 / 0 { print 1; }": 4, "while 1 / 0 { print 1; }": 4, "same(1 / 0);": 4, "first(2, 1 / 0);": 5, "bad(3);": 2 + 4, "print bad(3);": 3 + 4, "print five() + bad(3) + five();": 12, "var z int; while 1 { if z == 2 { z = 1 / 0; } z = z + 1; }": 1 + 3*(2+4) + 2*4 + 4,
	} {
		testSteps(t, "func five() int { return 5; } func same(a int) int { return a; } func first(a int, b int) int { return a; } func bad(a int) int { return a / 0; return 1; } thread { "+list+" print 7; } ", "0", steps)
	}
	for list, steps := range map[string]int{
		"print none.x;": 3, "print none.n.x;": 4, "print none.a[1 + 2];": 4, "print noarray[1 + 2];": 6, "none.x = 5;": 3, "none.x = 1 + 2;": 5, "none.n.x = 1 + 2;": 3, "noarray[2] = 5;": 4, "noarray[1 + 1] = 5 - 6;": 8, "none.a[1] = 2;": 3, "print e[4];": 4, "e[4] = 1;": 4, "e[4 + 1] = 1 + 2;": 8, "e[e[9]] = 1 + 2;": 5, "e[0] = e[9];": 6,
		"g.x = 1; g.x = none.x;": 3 + 4, "print 1; print none.x; print 2;": 2 + 3, "g.n = new r; g.n.x = 1 / 0;": 3 + 6, "print new r.n.x;": 4, "print new [2]int[2];": 4, "e[1 / 0] = 5;": 5, "e[2] = 1 / 0;": 6,
	} {
		testSteps(t, things+"thread { atomic { begin(); } atomic { "+list+" } print 7; }", "0 0", beginSteps+1+steps)
	}
}

// beginSteps are those of an atomic block that calls begin.
const beginSteps = 1 + 1 + 2 + 3 + 2 + 4*4 + 2 + 4 + 2 + 3 + 3

// TestStepsOfStatements holds how many steps each kind of statement is.
func TestStepsOfStatements(t *testing.T) {
	for list, steps := range map[string]int{
		"": 0, "var x int;": 1, "var x int = 5;": 2, "var x int = 5 + 6;": 4, "var x int; x = 5;": 3, "var x int; x = x + 1;": 5, "var p r; p = nil;": 3, "var p r = nil;": 2,
		"if 1 { }": 2, "if 0 { }": 2, "if 1 { var x int; } else { var x int; x = 1; }": 3, "if 0 { var x int; } else { var x int; x = 1; }": 5, "if 0 { var x int = 5 + 6; }": 2, "if 1 + 1 { if 0 { } else { if 2 { } } }": 8,
		"while 0 { }": 2, "while 1 - 1 { var x int; }": 4, "var i int = 1; while i { i = 0; }": 2 + 2 + 2 + 2, "var i int = 3; while i { i = i - 1; }": 2 + 4*2 + 3*4, "var i int = 2; while i > 0 { i = i - 1; var z int; }": 2 + 3*4 + 2*5,
		"f();": 1, "f(); f();": 2, "g(1);": 2, "g(1 + 2);": 4, "h(1, 2);": 1 + 2 + 2 + 2, "h(1, 2 * 3);": 1 + 4 + 2 + 2, "five();": 3, "g(five());": 1 + 1 + 2, "leave();": 1 + 1, "leaves(0);": 1 + 1 + 2 + 1 + 1, "leaves(1);": 1 + 1 + 2 + 1, "var x int = five();": 4, "if five() { f(); }": 5,
	} {
		const funcs = "record r { x int; } func f() { } func g(a int) { } func h(a int, b int) { a = b; g(b); } func five() int { return 5; } func leave() { return; g(1); } func leaves(a int) { if a { return; } f(); return; } "
		testSteps(t, funcs+"thread { "+list+" print 1; }", "0", 2+steps)
		testSteps(t, funcs+"thread { "+list+" atomic { } }", "0", 1+steps)
		testSteps(t, funcs+"thread { atomic { "+list+" } }", "0", 1+steps)
		testSteps(t, funcs+"thread { "+list+" }", "0", max(1, steps))
		testSteps(t, funcs+"func in() { "+list+" } thread { in(); print 1; }", "0", 3+steps)
		testSteps(t, funcs+"func in() int { "+list+" } thread { print in() + in(); }", "0", 4+2*steps)
	}
}

// TestStepsInBlocks holds how many steps each kind of statement is that touches what is shared.
func TestStepsInBlocks(t *testing.T) {
	for list, steps := range map[string]int{
		"": 0, "s = 1;": 2, "s = s;": 2, "s = s + 1;": 4, "print s;": 2, "print 1; print s + 1;": 6, "if s { s = 1; } s = 2;": 2 + 2, "s = 2; while s { s = s - 1; }": 2 + 3*2 + 2*4,
		"none = new r;": 2, "e = new [4]int;": 2, "l = new [3]r;": 2, "none = nil;": 2, "none = g;": 2, "print g == nil;": 4, "print new r == g;": 4, "var p r = new r;": 2, "var a [64]int; a = new [64]int;": 3,
		// The X of a set is none by itself, but what stands within it.
		"g.x = 1;": 3, "g.x = g.x;": 4, "g.x = g.x + 1;": 6, "g.n = g; g.n.x = 1;": 3 + 4, "g.n = g; g.n.n.x = 1;": 3 + 5, "print g.x;": 3, "g.n = g; print g.n.n.x;": 3 + 5,
		"e[0] = 1;": 4, "e[1 + 1] = 1;": 6, "e[e[0] - 10] = 1;": 8, "e[0] = e[1];": 6, "print e[0];": 4, "print e[1 + 1];": 6, "l[1].x = 1;": 5, "print l[1].x;": 5, "l[0] = new r; l[0].x = 3;": 4 + 5, "g.a = new [2]int; g.a[1] = 1;": 3 + 5, "g.l = new [2]r; g.l[0] = g; g.l[0].l[0].x = 1;": 3 + 5 + 9,
		"bump();": 1 + 4 + 2, "s = bump();": 1 + 1 + 4 + 2, "swap();": 1 + 3 + 2, "ref(1).x = 2;": 1 + 2 + 2 + 6 + 2 + 2 + 1, "begin();": beginSteps - 1, "arr(1)[0] = 2;": 1 + 2 + 2 + 6 + 2 + 2 + 1 + 1,
	} {
		testSteps(t, things+"thread { atomic { begin(); } atomic { "+list+" } }", "0 0", beginSteps+1+steps)
		testSteps(t, things+"func in() { "+list+" } thread { atomic { begin(); } atomic { in(); } }", "0 0", beginSteps+2+steps)
	}
}

// TestFuelOfTheWholeRun holds that all leaps of all threads share the fuel, and what is told without any step.
func TestFuelOfTheWholeRun(t *testing.T) {
	const two = "thread { print 1; print 2; } thread { print 3; print 4 + 5; }"
	testSteps(t, two, "0 1", 4)
	testSteps(t, two, "0 0 1", 6)
	testSteps(t, two, "0 1 0 1", 10)
	testSteps(t, two, "1 0 0 1", 10)
	testSteps(t, two, "1 1 -1 5 0", 8)
	p := read(t, two)
	for fuel, want := range map[int]string{
		1: ".. | .. short", 2: "1 .. | .. short", 3: "1 .. | .. short", 4: "1 .. | 3 .. short", 5: "1 .. | 3 .. short", 6: "1 2 .. | 3 .. short", 9: "1 2 .. | 3 .. short", 10: "1 2 done | 3 9 done",
	} {
		testTree(t, two, p, []int{0, 1, 0, 1, 0, 1}, fuel, want)
	}
	// The end of a thread behind its last statement takes none, nor does what waits, nor a pick that does nothing.
	for _, picks := range []string{"0", "0 0", "0*3", "0*4", "0*5", "0*6 7 -1", "0 1 1 0 0 5 0 0 0"} {
		testTree(t, picks, read(t, "thread { atomic { print 1; print 2; print 3; } } thread { }"), picked(t, picks), 7, run(read(t, "thread { atomic { print 1; print 2; print 3; } } thread { }"), picked(t, picks), plenty).String())
	}
	testTree(t, "no step", read(t, "thread { } thread { }"), []int{0, 1, 0, 1, 2}, 1, "done | done")
	testTree(t, "no pick", p, nil, 1, ".. | ..")
	testTree(t, "no pick of a thread", p, []int{-1, 2, 9}, 1, ".. | ..")
	// Behind the leap that is not made none is made, not even one that takes no step.
	const ended = "thread { atomic { print 1; } } thread { while 1 { } } thread { }"
	q := read(t, ended)
	testTree(t, ended, q, []int{0, 0, 2, 1}, 50, "1 .. | .. | done short")
	testTree(t, ended, q, []int{0, 1, 0, 2}, 50, ".. | .. | .. short")
	testTree(t, ended, q, []int{0, 1, 0, 0, 0, 0, 2, 2}, 50, ".. | .. | .. short")
	testTree(t, ended, q, []int{1, 0, 2}, 50, ".. | .. | .. short")
	testTree(t, "a block that is not done", read(t, "shared n int; thread { atomic { n = 1; print n; n = 2; } } thread { atomic { print n; } }"), []int{1, 1, 0, 0, 1}, 3+6, ".. | 0 .. short")
	testTree(t, "a block that is done", read(t, "shared n int; thread { atomic { n = 1; print n; n = 2; } } thread { atomic { print n; } }"), []int{1, 1, 0, 0, 1}, 3+7, "1 .. | 0 done")
}

// TestEndlessRuns holds that each run ends, whatever goes on without an end in it.
func TestEndlessRuns(t *testing.T) {
	for _, text := range []string{
		"thread { while 1 { } }", "thread { while 1 { while 1 { } } }", "thread { while 1 { while 0 { } } }", "thread { var i int; while 1 { i = i + 1; } }", "func f() { while 1 { } } thread { f(); print 1; }", "func f() int { while 1 { } } thread { print f(); }", "func f() int { while 1 { if 0 { return 1; } } return 2; } thread { if f() { print 1; } }",
		"shared n int; thread { atomic { print 1; while 1 { n = n + 1; print n; } } }", "record r { n r; } shared g r; thread { atomic { while 1 { var p r = new r; p.n = g; g = p; } } }", "thread { atomic { while 1 { var a [64]int = new [64]int; } } }", "func f() { } thread { while 1 { f(); } }", "func f() int { } thread { while 1 { f(); f(); } }", "thread { var x int; while !x { var y int = x; } }",
	} {
		for _, fuel := range []int{1, 2, 3, 100, 1001, api.MaxFuel} {
			testTree(t, text, read(t, text), []int{0, 0}, fuel, ".. short")
		}
	}
	// Each function calls the next one twice: there are 2^31 calls and more.
	p := read(t, "thread { f(); print 1; } func f() { }")
	p.Funcs = nil
	name := func(i int) string { return "f" + string(rune('a'+i/26)) + string(rune('a'+i%26)) }
	for i := range api.MaxFuncs {
		f := api.Func{Name: name(i)}
		if i+1 < api.MaxFuncs {
			call := api.Stmt{Kind: api.StCall, X: api.Expr{Kind: api.ExCall, Name: name(i + 1)}}
			f.Body = []api.Stmt{call, call}
		}
		p.Funcs = append(p.Funcs, f)
	}
	p.Threads[0][0].X.Name = name(0)
	testTree(t, "calls without an end", p, []int{0}, api.MaxFuel, ".. short")
	p.Threads[0][0].X.Name = name(api.MaxFuncs - 10)
	testTree(t, "many calls", p, []int{0}, 1<<10-1+2, "1 ..")
	testTree(t, "many calls", p, []int{0}, 1<<10-1+1, ".. short")
}

// TestMostFuel holds a run that takes as many steps as one may.
func TestMostFuel(t *testing.T) {
	const steps = 2 + 2*2 + 2*(174761+1) + 4*174761 + 2
	if steps != api.MaxFuel {
		t.Fatal(steps)
	}
	p := read(t, "thread { var i int = 174761; i = i; i = i; while i { i = i - 1; } print 1; }")
	testTree(t, "as many as may be", p, []int{0, 0}, api.MaxFuel, "1 done")
	testTree(t, "one less", p, []int{0, 0}, api.MaxFuel-1, ".. short")
	q := read(t, "thread { var i int = 174761; var j int; i = i; i = i; while i { i = i - 1; } print 1; }")
	testTree(t, "one more", q, []int{0, 0}, api.MaxFuel, ".. short")
}
