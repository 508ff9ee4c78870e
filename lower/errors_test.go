package lower_test

import (
	"strconv"
	"strings"
	"testing"
)

// look is a thread that tells all that is shared of things, by so many leaps as it takes, and the picks of these.
const (
	look  = " thread { atomic { print log; print s; print g.x; print g.n == nil; print g.a == nil; print l[0] == nil; print l[1] == g; print l[2] == nil; print e[0]; print e[3]; print none == nil; print h.x; print h.y; } }"
	looks = " 1*20"
	// asBegun is what that thread tells behind begin.
	asBegun = "0 0 7 1 1 1 1 1 10 13 1 8 9 done"
)

// testUndone holds that a block in which there is an error ends its thread by it, has told nothing, and has done nothing.
func testUndone(t *testing.T, block, end string) {
	t.Helper()
	for _, picks := range []string{"0 0", "0 0 0 0"} {
		testTold(t, things+"thread { atomic { begin(); } atomic { "+block+" } print 5; }"+look, picks+looks, end+" | "+asBegun)
	}
}

// TestEnds holds how each error ends a thread: in each kind of expression, in each place of statements, in functions that are called, in loops. (P11.3)
func TestEnds(t *testing.T) {
	for end, exprs := range map[string][]string{
		"zero":  {"1 / 0", "1 % 0", "h.x / (h.x - 8)", "7 % new [2]int[1]", "-9223372036854775808 / 0", "three(1, 2 / 0, 3)", "e[0] / say(0)"},
		"nil":   {"none.x", "g.n.x", "g.n.n == nil", "g.a[0]", "noarray[0]", "l[0].x", "noref(1).x", "noarr(1)[0]", "new r.n.x", "new [2]r[1].x", "noarray[9]", "noarray[-1]", "l[0].a[5]"},
		"index": {"e[4]", "e[-1]", "e[64]", "e[9223372036854775807]", "e[-9223372036854775808]", "e[4294967296]", "l[3].x", "l[-1] == nil", "arr(1)[4]", "new [1]int[1]", "new [2]r[2].x", "new [64]int[64]", "e[g.x]", "e[e[0]]"},
	} {
		for _, x := range exprs {
			for _, block := range []string{
				"print $;", "var z int = $;", "s = $;", "g.x = $;", "e[0] = $;", "e[$] = 1;", "l[$].x = 1;", "if $ { }", "if $ { s = 1; } else { s = 2; }", "while $ { s = 1; }", "say($);", "three(1, $, 2);", "three($, say(2), 3);", "print three(1, 2, $);",
				"print -$;", "print !$;", "print $ + 1;", "print 1 + $;", "print 2 * ($ * 3);", "print 8 / $;", "print $ == 1;", "print 1 != $;", "print 1 <= $;", "print $ > 1;", "print $ && 0;", "print 1 && $;", "print 0 || $;", "print $ || 1;", "print e[$];", "print l[$] == nil;",
				"while 1 { if s { print $; } s = 1; }", "if 0 { } else { print $; }", "print 1; print $; print 2;", "fails($);", "failing();", "print failed() + 1;", "say(failed());", "ref($).x = 1;", "arr(1)[$] = 5;", "while s < 5 { failing(); }",
			} {
				// An expression that compares is of ints too, but binds looser than what may stand around it.
				at := strings.ReplaceAll(block, "$", "("+x+")")
				functions := "func fails(a int) { print a; s = a; } func failing() { s = 5; print 1; print " + x + "; s = 6; } func failed() int { s = 5; if s { return " + x + "; } return 1; } "
				testTold(t, things+functions+"thread { atomic { begin(); } atomic { s = 0; "+at+" } }"+look, "0*3"+looks, end+" | "+asBegun)
			}
		}
	}
}

// TestEdges holds the last index that there is, and the first one that there is not, of arrays of some lengths. (P11.3)
func TestEdges(t *testing.T) {
	for _, n := range []int{1, 2, 3, 7, 63, 64} {
		for _, at := range []int{-1, 0, 1, n - 1, n, n + 1} {
			in := at >= 0 && at < n
			array, index := "["+strconv.Itoa(n)+"]", strconv.Itoa(at)
			for sort, what := range map[string][2]string{"int": {"5", "0"}, "r": {"g", "nil"}} {
				ahead := "record r { x int; } shared g r; shared i int; thread { atomic { g = new r; i = " + index + "; var a " + array + sort + " = new " + array + sort + "; "
				read, written := "index", "index"
				if in {
					read, written = "1 done", "1 0 done"
				}
				testTold(t, ahead+"print a["+index+"] == "+what[1]+"; } }", "0*5", read)
				testTold(t, ahead+"print a[i] == "+what[1]+"; } }", "0*5", read)
				testTold(t, ahead+"a[i] = "+what[0]+"; print a[i] == "+what[0]+"; print a[i] == "+what[1]+"; } }", "0*5", written)
			}
		}
	}
}

// TestWhichErrorIsFirst holds what is asked first where several errors might be found. (P11.3)
func TestWhichErrorIsFirst(t *testing.T) {
	for block, end := range map[string]string{
		// The reference, the index, Y; then whether it is nil; then whether the index is none.
		"noarray[1 / 0] = 1;": "zero", "noarray[9] = 1;": "nil", "noarray[0] = 1 / 0;": "zero", "noarray[9] = e[4];": "index", "e[4] = 1 / 0;": "zero", "e[4] = none.x;": "nil", "e[4] = e[0];": "index", "e[none.x] = 1 / 0;": "nil", "e[1 / 0] = none.x;": "zero", "e[-1] = 1 % 0;": "zero",
		"none.x = 1 / 0;": "zero", "none.x = e[4];": "index", "none.x = 1;": "nil", "none.n.x = 1 / 0;": "nil", "g.n.x = 1 / 0;": "zero", "g.n.n.x = 1 / 0;": "nil", "l[3].x = 1 / 0;": "index", "l[0].x = 1 / 0;": "zero", "l[0].x = l[3].x;": "index", "none.a[1 / 0] = 1;": "nil", "g.a[1 / 0] = 1;": "zero", "g.a[7] = 1;": "nil",
		"print noarray[1 / 0];": "zero", "print noarray[4];": "nil", "print e[none.x];": "nil", "print none.a[1 / 0];": "nil", "print l[0].a[1 / 0];": "nil", "print l[9].a[1 / 0];": "index",
		"print 1 / 0 + none.x;": "zero", "print none.x + 1 / 0;": "nil", "print e[4] / 0;": "index", "print none.x / 0;": "nil", "print 1 / none.x;": "nil", "print 1 / 0 == e[4];": "zero", "print e[4] && none.x;": "index", "print 1 / 0 > none.x;": "zero", "print none.x >= 1 / 0;": "nil",
		"three(1 / 0, none.x, e[4]);": "zero", "three(none.x, e[4], 1 / 0);": "nil", "three(1, e[4], 1 / 0);": "index", "print three(1, 2, three(none.x, 1 / 0, 3));": "nil",
		"print 1; s = 2; print e[4]; print none.x;": "index", "if none.x { print 1 / 0; }": "nil", "while e[4] { print 1 / 0; }": "index", "var z int = none.x; var y int = 1 / 0;": "nil",
	} {
		testUndone(t, block, end)
	}
	// What the left side names may be gone, or be there, by what Y does.
	testUndone(t, "s = 3; e[s] = bump(); e[s] = 1;", "index")
	testBlock(t, "g.n = new r; g.n.x = swap(); print l[1].n.x; print g.x; print g.n == nil;", "5 5 1 done")
}

// TestBlocksAreUndone holds that a block in the midst of which there is an error has done nothing: to whatever it has changed, once or many times. (P11.3)
func TestBlocksAreUndone(t *testing.T) {
	for _, changes := range []string{
		"", "print 1; print 2;", "s = 1; s = 2; s = 3;", "log = 4; s = 1; log = 5; s = 0;", "g.x = 1; g.x = 2; l[1].x = 3;", "g = nil;", "g = new r; g.x = 3;", "g.n = g; g.n.n.x = 5;", "g.a = new [2]int; g.a[0] = 1; g.a = nil;",
		"none = new r; none.n = g; none.n.x = 6;", "none = g; g = nil; none.x = 1; none = nil;", "e[0] = 1; e[3] = 2;", "e = new [4]int; e[0] = 1;", "var a [4]int = e; e = nil; a[0] = 5; a[3] = 6;", "l[0] = g; l[1] = new r; l[2] = l[0]; l[2].x = 9;", "l = nil;",
		"h.x = 9; h.y = 8; var z int = h.x; h.x = h.y; h.y = z;", "say(1); say(2); print log;", "begin(); begin(); g.x = 3; bump();", "var p r = g; var i int; while i < 50 { var q r = new r; q.n = p; p.n = q; p.x = i; p = q; i = i + 1; }",
		"while s < 100 { s = s + 1; g.x = g.x + s; e[s % 4] = s; print s; }", "g.n = new r; swap(); g.x = 1; g = nil;", "s = bump() + bump() * bump();",
	} {
		testUndone(t, changes+" print 1 / 0;", "zero")
		testUndone(t, changes+" none = nil; print none.x;", "nil")
		testUndone(t, changes+" e = new [4]int; e[4] = 1;", "index")
		testUndone(t, changes+" fail(0);", "zero")
	}
	// What the block names may be another thread's, too, that holds it by a local alone.
	testTold(t, "record r { x int; n r; } shared g r; thread { var p r; atomic { g = new r; g.n = new r; p = g.n; p.x = 4; } atomic { g = nil; } atomic { print p.x; p.x = p.x + 1; } atomic { print p.x; } } thread { var o r; atomic { if g != nil { o = g; } } atomic { o.n.x = 50; o.n = nil; print o.n.x; } } thread { var o r; atomic { o = g.n; } atomic { o.x = 60; o.x = o.x / 0; } }",
		"0 1 2 1 2 0*9", "4 5 done | nil | zero")
}

// TestErrorsAndBlocks holds errors ahead of blocks, within them and behind them: what the thread's blocks have done and told by then. (P11.3)
func TestErrorsAndBlocks(t *testing.T) {
	const text = "shared n int; func f() int { return 1 / 0; } thread { print 1; $0 atomic { n = n + 1; print 2; print 3; $1 print 4; } $2 print 5; $3 atomic { n = n + 1; print 6; } $4 } thread { atomic { print n; } }"
	for _, fault := range []string{"print 1 / 0;", "var z int = f();", "f();", "if f() { }", "while 1 % 0 { }", "if 1 { var z int = 7; z = f(); }", "while 1 { if 1 { f(); } else { } }", "var i int = 3; while i { i = i - 1; i = i / i; }"} {
		for i, want := range []string{"1 zero | 0 done", "1 zero | 0 done", "1 2 3 4 zero | 1 done", "1 2 3 4 5 zero | 1 done", "1 2 3 4 5 6 zero | 2 done"} {
			testTold(t, with(text, i, fault), "0*20 1*3", want)
		}
	}
	testRows(t, with(text, 2, "print 1 / 0;"),
		row{"0 0 1*3", "1 .. | 1 done"}, row{"0*4 1*3", "1 2 3 .. | 1 done"}, row{"0*5 1*3", "1 2 3 4 .. | 1 done"}, row{"0*6 1*3", "1 2 3 4 zero | 1 done"}, row{"0*7 1*3", "1 2 3 4 zero | 1 done"}, row{"1*3 0*9", "1 2 3 4 zero | 0 done"})
	testRows(t, with(text, 1, "print 1 / 0;"), row{"0", "1 .. | .."}, row{"0 0", "1 zero | .."}, row{"0*3", "1 zero | .."}, row{"0 1 0 0 1", "1 zero | 0 .."})
	// Others go on, and whatever the thread has done ahead stays done.
	testTold(t, "shared n int; thread { while 1 { atomic { n = n + 1; print 10 / (3 - n); } } } thread { while 1 { atomic { n = n + 1; print n; } } }", "0 0 0 0 0 1 1 1 1 0", "5 10 zero | 3 4 ..")
	// An error ends a thread in the midst of functions that have told something.
	testTold(t, "func f(a int) { print 10 / a; f2(a - 1); print 9; } func f2(a int) { print 10 / a; } thread { f(2); f(1); f(5); }", "0*20", "5 10 9 10 zero")
	testTold(t, "shared n int; func f(a int) { atomic { n = n + a; print n; n = n / (a - 2); } } thread { f(1); f(2); f(3); } thread { atomic { print n; } }", "0*20 1 1 1", "1 zero | -1 done")
}

// with lays something at one of the places of a text, and nothing at the others.
func with(text string, place int, what string) string {
	for i := range 9 {
		here := ""
		if i == place {
			here = what
		}
		text = strings.ReplaceAll(text, "$"+strconv.Itoa(i), here)
	}
	return text
}
