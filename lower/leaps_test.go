package lower_test

import (
	"math"
	"slices"
	"strings"
	"testing"

	"turnstile/api"
)

// TestPrintsWait holds that the prints of a block are told one by one behind it, and ahead of all else. (P11.3)
func TestPrintsWait(t *testing.T) {
	testRows(t, "thread { print 1; atomic { print 2; print 3; print 4; } print 5; }",
		row{"0", "1 .."}, row{"0 0", "1 .."}, row{"0*3", "1 2 .."}, row{"0*4", "1 2 3 .."}, row{"0*5", "1 2 3 4 .."}, row{"0*6", "1 2 3 4 5 .."}, row{"0*7", "1 2 3 4 5 done"}, row{"0*8", "1 2 3 4 5 done"})
	// Behind a block there is one leap at least, up to the end.
	testRows(t, "thread { atomic { } }", row{"0", ".."}, row{"0 0", "done"})
	testRows(t, "thread { atomic { print 1; } }", row{"0", ".."}, row{"0 0", "1 .."}, row{"0*3", "1 done"})
	testRows(t, "thread { atomic { } atomic { print 1; } atomic { } print 2; atomic { } }", row{"0", ".."}, row{"0*2", ".."}, row{"0*3", "1 .."}, row{"0*4", "1 .."}, row{"0*5", "1 2 .."}, row{"0*6", "1 2 .."}, row{"0*7", "1 2 done"})
	// What waits was worked out in the block, and others' blocks make no difference to it.
	const n = "shared n int; thread { atomic { n = n + 1; print n; n = n + 1; print n; } } thread { atomic { n = n * 10; print n; } }"
	testRows(t, n, row{"0 1 0 0 1 0 1", "1 2 done | 20 done"}, row{"1 0 1 0 1 0 0", "1 2 done | 0 done"}, row{"0 0 1 0 1", "1 2 .. | 20 .."}, row{"0 1 1 1", ".. | 20 done"})
	// A block is done as a whole by one leap, however long it is.
	testRows(t, "shared n int; thread { atomic { while n < 1000 { n = n + 1; print n; } } } thread { atomic { print n; } }", row{"0 1 1 0", "1 .. | 1000 .."}, row{"1 0 1 0 0", "1 2 .. | 0 .."})
}

// TestLeapsGoFar holds that a leap goes on up to the next visible thing, through whatever is none. (P11.3)
func TestLeapsGoFar(t *testing.T) {
	testRows(t, "func f(a int) int { return a + 1; } func g() { } thread { var i int; while i < 10 { i = f(i); g(); if i == 5 { print i; } } print -1; var z int = 3; z = z; } thread { print 7; }",
		row{"0", "5 .. | .."}, row{"0 0", "5 -1 .. | .."}, row{"0 1 0", "5 -1 .. | 7 .."}, row{"0*3", "5 -1 done | .."}, row{"1 1", ".. | 7 done"})
	// Leaps end in the midst of functions, of loops, of choices, and go on there.
	testRows(t, "func f(a int) { print a; while a { a = a - 1; if a { print a; } else { atomic { print -5; } } } print 9; } func g(a int) { f(a); print 8; } thread { g(2); f(0); print 7; }",
		row{"0", "2 .."}, row{"0*2", "2 1 .."}, row{"0*3", "2 1 .."}, row{"0*4", "2 1 -5 .."}, row{"0*5", "2 1 -5 9 .."}, row{"0*6", "2 1 -5 9 8 .."}, row{"0*7", "2 1 -5 9 8 0 .."}, row{"0*8", "2 1 -5 9 8 0 9 .."}, row{"0*9", "2 1 -5 9 8 0 9 7 .."}, row{"0*10", "2 1 -5 9 8 0 9 7 done"})
	// Two threads in one function have each their own place and locals in it.
	testRows(t, "func f(a int) { var i int; while i < 2 { print a + i; i = i + 1; } } thread { f(10); } thread { f(20); f(30); }", row{"0 1 0 1 1 0 1", "10 11 done | 20 21 30 31 .."}, row{"1 1 1 0", "10 .. | 20 21 30 .."})
}

// TestBlocksInLoops holds blocks that are done again and again. (P11.3)
func TestBlocksInLoops(t *testing.T) {
	const text = "shared n int; thread { var i int; while i < 3 { atomic { n = n + 1; print n; if n % 2 { print -n; } } i = i + 1; } print 100; } thread { while 1 { atomic { n = n + 10; } } }"
	testRows(t, text,
		row{"0", ".. | .."}, row{"0 0", "1 .. | .."}, row{"0*3", "1 -1 .. | .."}, row{"0*4", "1 -1 .. | .."}, row{"0*5", "1 -1 2 .. | .."}, row{"0*8", "1 -1 2 3 -3 .. | .."}, row{"0*9", "1 -1 2 3 -3 100 .. | .."}, row{"0*10", "1 -1 2 3 -3 100 done | .."},
		row{"1 0*20", "11 -11 12 13 -13 100 done | .."}, row{"0 1 1 0 0 0 1*5 0 0", "1 -1 22 .. | .."}, row{"0 1 1 0 0 1*5 0 0", "1 -1 72 .. | .."})
	testRows(t, "shared n int; func f() { atomic { n = n + 1; } } thread { while 1 { f(); f(); atomic { print n; } } }", row{"0*3", ".."}, row{"0*4", "2 .."}, row{"0*8", "2 4 .."}, row{"0*11", "2 4 .."}, row{"0*12", "2 4 6 .."})
}

// TestPicksThatDoNothing holds picks of threads that there are not, and of such as have ended. (P11.3)
func TestPicksThatDoNothing(t *testing.T) {
	const text = "thread { print 1; print 2; } thread { } thread { print 1 / 0; print 3; }"
	p := read(t, text)
	c := lowered(t, text, p)
	is := func(picks []int, want string) {
		t.Helper()
		if got := testSame(t, text, p, c, picks); got != want {
			t.Errorf("with the picks %s: %s, not %s", head(picks), got, want)
		}
	}
	for _, none := range []int{3, 4, 5, 100, -1, -2, -3, math.MaxInt, math.MinInt, 1 << 32, -1 << 32} {
		is([]int{none}, ".. | .. | ..")
		is([]int{none, 0, none, none, 2, 0, none}, "1 2 .. | .. | zero")
	}
	is([]int{1, 1, 1, 2, 2, 2, 0, 1, 2, 0, 0, 0, 0, 2, 1}, "1 2 done | done | zero")
	// As many picks as there may be.
	is(slices.Repeat([]int{7}, api.MaxPicks), ".. | .. | ..")
	is(append(slices.Repeat([]int{1, -1}, api.MaxPicks/2-1), 0, 2), "1 .. | done | zero")
	testTold(t, "thread { while 1 { print 1; } }", "0*"+"65536", strings.Repeat("1 ", api.MaxPicks)+"..")
}

// TestShared holds what is shared: at first 0 or nil, and one thing for all threads; and that picks of all sorts make of threads that share what the language says. (P11.3)
func TestShared(t *testing.T) {
	testTold(t, "record r { x int; } shared n int; shared g r; shared a [2]int; shared l [2]r; thread { atomic { print n; print g == nil; print a == nil; print l == nil; } }", "0*5", "0 1 1 1 ..")
	const text = `record r { x int; n r; } shared a int; shared g r; shared b int; shared e [2]int;
		thread { atomic { a = 1; g = new r; g.x = 2; } atomic { e = new [2]int; e[1] = 5; b = 3; } atomic { g.n = g; } }
		thread { var p r; while 1 { atomic { print a * 10 + b; if g != nil { p = g; print p.x; p.x = p.x + 1; if p.n == p { print -1; } } if e != nil { print e[1]; e[1] = e[1] * 2; } } } }
		thread { atomic { g = nil; e = new [2]int; } atomic { if e != nil { print e[1]; } } }`
	testRows(t, text,
		row{"1 1 1", ".. | 0 .. | .."}, row{"0 1*3 0 1*4 0 1*5", ".. | 10 2 13 3 5 13 4 -1 10 .. | .."}, row{"0 1 1 0 1 1 1 1 2 2 2", ".. | 10 2 13 3 .. | 0 .."},
		row{"0 0 1*4 2 1*2 0", "nil | 13 2 5 13 .. | .."}, row{"0 0 2 0", "nil | .. | .."}, row{"2 0 0 2 0 2 0", "done | .. | 5 .."})
	testAll(t, text)
	for _, text := range []string{
		"shared n int; thread { print 1; atomic { n = n + 1; print n; } print 2; } thread { atomic { n = n * 2 + 3; print n; } atomic { print n; } }",
		"shared n int; thread { while 1 { atomic { n = n + 1; if n == 40 { print 1 / 0; } print n; } } } thread { print 5; atomic { n = n + 2; } print 6; } thread { var i int; while i < 9 { atomic { i = i + n % 3; } print i; } }",
		"record r { x int; n r; } shared g r; thread { var p r; atomic { p = g; } atomic { if p != nil { print p.x; p.x = 0; } } } thread { atomic { g = new r; g.x = 5; } atomic { g.x = g.x * 2; print g.x; } atomic { print g.n.x; } }",
		"func f(a int) { print a; atomic { s = s + a; print s; } } shared s int; thread { f(1); f(2); } thread { f(10); f(20); } thread { } thread { f(100); f(s2(3)); } func s2(a int) int { return a * a; }",
		things + "thread { atomic { begin(); } while 1 { atomic { say(1); print log; if log > 99 { log = 0; } } } } thread { while 1 { atomic { if g != nil { say(2); print g.x; g.x = bump(); } } } } thread { atomic { s = 5; } atomic { print three(s, bump(), s); } }",
	} {
		testAll(t, text)
	}
}
