package effect_test

import (
	"strconv"
	"strings"
	"testing"

	"turnstile/api"
)

// TestRings holds that the first function that comes back to itself is told, wherever the calls stand.
func TestRings(t *testing.T) {
	testEach(t, api.ErrRing,
		"#func f() { f(); }", "#func f(x int) int { return f(x); }", "#func f() { g(); } func g() { f(); }", "#func f() { g(); } func g() { h(); } func h() { f(); }", "#func f() { h(); } func g() { f(); } func h() { g(); }",
		"func a() { } func b() { a(); } #func f() { a(); f(); }", "record r { x int; } shared s int; shared e [2]int; func a() { print 1; return; } #func f() { b(); g(); } func b() { a(); } func g() { b(); f(); }",
		// One that calls one of a ring does not come back to itself.
		"func a() { f(); } #func f() { f(); }", "func a() { b(); } func b() { f(); } #func f() { g(); } func c() { g(); } func g() { f(); }", "func a() { f(); g(); } #func f() { g(); } func g() { b(); f(); } func b() { }",
		// Of two rings the first function of all is told.
		"#func f() { f(); } func g() { g(); }", "func a() { g(); } #func f() { f(); } func g() { g(); }", "#func f() { g(); k(); } func g() { h(); } func h() { g(); f(); } func k() { k(); }", "#func f() { k(); } func g() { h(); } func h() { g(); } func k() { f(); }",
		// A ring that is met on the way is not the function's own.
		"func f() { g(); } #func g() { h(); } func h() { g(); }", "#func f() { g(); h(); } func g() { g(); } func h() { f(); }", "#func f() { g(); } func g() { g(); h(); } func h() { k(); g(); } func k() { g(); h(); f(); }",
	)
}

// TestWhereRingsStand holds that no part of a function is left out, nor code that is never come to.
func TestWhereRingsStand(t *testing.T) {
	for _, call := range []string{
		"f(1);", "g(1);", "return; f(1);", "return; return; g(1);", "if 0 { f(1); }", "if 1 { } else { f(1); }", "while 0 { g(1); }", "while 1 { } f(1);", "atomic { f(1); }", "atomic { return; g(1); }", "if 1 { return; } else { return; } while 1 { if 0 { atomic { if 1 { print 1; } else { g(1); } } } }",
		"print num(f(1));", "var x int = f(1);", "s = g(1);", "e[f(1)] = 2;", "e[0] = f(1);", "h().x = 1;", "h().n = nil;", "if f(1) { }", "while g(1) { }", "print 1 + -f(1);", "print 0 && f(1);", "print num(num(num(g(1))));", "num(f(2));", "f(num(1));", "num(h().n.n.x);", "print new r == h();", "return; print 0 * e[!f(1)];", "print h() != nil;",
	} {
		testEach(t, api.ErrRing, "record r { x int; n r; } shared s int; shared e [2]int; func num(a int) int { return a; } #func in() { "+call+" } func f(a int) int { in(); } func g(a int) int { num(1); f(2); } func h() r { in(); }")
	}
	// What a value returns, of a function with a Result.
	testEach(t, api.ErrRing, "func num(a int) int { return a; } #func f(a int) int { return num(f(a)); }", "#func f(a int) int { return 1; return -(1 + g()); } func g() int { return f(0); }", "record r { n r; } #func f() r { if 1 { } else { return f().n; } }")
}

func TestNoRings(t *testing.T) {
	testEach(t, api.OK,
		"func f() { g(); g(); g(); } func g() { h(); h(); } func h() { }", "func h() { } func g() { h(); h(); } func f() { g(); h(); g(); }", "func f() { g(); h(); } func g() { k(); } func h() { k(); } func k() { }",
		"func f() { var f int = 1; f = f; print f; }", "record r { f r; } func f(a r) { a.f = a.f; }", "func f(g int) { print g; } func g(f int) { f1(f); } func f1(a int) { f(a); }",
		"thread { f(); f(); } thread { f(); } func f() { }",
	)
}

// ring is functions each of which calls the one that stands so many behind it, from the last on to the first again.
func ring(long, step int) string {
	var b strings.Builder
	for i := range long {
		b.WriteString("func f" + strconv.Itoa(i) + "() { f" + strconv.Itoa((i+step)%long) + "(); } ")
	}
	return b.String()
}

// TestLongRings holds rings of as many functions as there may be, whatever the order is in which they stand.
func TestLongRings(t *testing.T) {
	for long := 1; long <= api.MaxFuncs; long++ {
		for step := 1; step <= long; step++ {
			if gcd(step, long) > 1 {
				continue
			}
			testCheck(t, "#"+ring(long, step)+"thread { f0(); }", api.ErrRing)
			if long < api.MaxFuncs {
				testCheck(t, "func a() { f0(); } #"+ring(long, step), api.ErrRing)
			}
		}
	}
	// One call less, and there is no ring.
	for long := 2; long <= api.MaxFuncs; long++ {
		open := strings.Replace(ring(long, 1), "f0(); }", "}", 1)
		testCheck(t, open+"thread { f0(); }", api.OK)
	}
}

func gcd(a, b int) int {
	for b != 0 {
		a, b = b, a%b
	}
	return a
}

// manyWays is a program in which each function but the last one calls the next one as often as the limits let it: there are more ways from the first to the last than can be gone.
func manyWays(last string) string {
	var b strings.Builder
	for i := range api.MaxFuncs - 1 {
		b.WriteString("func f" + strconv.Itoa(i) + "() { " + strings.Repeat("f"+strconv.Itoa(i+1)+"(); ", 16) + "} ")
	}
	return b.String() + "func f" + strconv.Itoa(api.MaxFuncs-1) + "() { " + last + " } "
}

// TestManyWays holds that what a function does is not asked again on each way that leads to it.
func TestManyWays(t *testing.T) {
	testEach(t, api.OK, manyWays(""), manyWays("print 1;"), manyWays("atomic { }"), "shared s int; "+manyWays("s = 1;")+"thread { atomic { f0(); } }")
	testEach(t, api.ErrEffect, "shared s int; "+manyWays("s = 1;")+"thread { #f0(); }", manyWays("atomic { }")+"thread { atomic { #f0(); } }", manyWays("atomic { #return; }"))
	testEach(t, api.ErrRing, "#"+manyWays("f0();"), "#"+manyWays("f31(); f0();"), strings.Replace(manyWays("f31();"), "func f31", "#func f31", 1), strings.Replace(manyWays("f17();"), "func f17", "#func f17", 1))
}
