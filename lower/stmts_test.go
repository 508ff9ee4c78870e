package lower_test

import (
	"strconv"
	"strings"
	"testing"

	"turnstile/api"
)

// TestLocals holds what local variables have: at first, behind a set, where their lists are begun again, in each call. (P11.3)
func TestLocals(t *testing.T) {
	for text, want := range map[string]string{
		"thread { var x int; print x; x = 5; print x; x = x * x; print x; }":                                                                                                      "0 5 25 done",
		"thread { var x int = 3; var y int = x + 1; print y; x = y; y = 1; print x; print y; }":                                                                                   "4 4 1 done",
		"thread { var x int = 3; var y int = x; x = 4; print y; y = x; x = 5; print y; print x; }":                                                                                "3 4 5 done",
		"thread { var x int = 1; if x { x = 2; var y int = x; x = y + 1; } print x; }":                                                                                            "3 done",
		"thread { if 1 { var x int = 1; print x; } else { var x int = 2; print x; } var x int; print x; }":                                                                        "1 0 done",
		"thread { if 1 { var x int = 1; x = 5; } if 1 { var x int; print x; } }":                                                                                                  "0 done",
		"thread { var i int; while i < 3 { var x int; print x; x = i + 1; i = x; } }":                                                                                             "0 0 0 done",
		"thread { var i int; while i < 2 { if i { var z int; print z; } var z int = 7; print z; i = i + 1; } }":                                                                   "7 0 7 done",
		"func f(a int) int { a = a + 1; return a; } thread { var a int = 5; print f(a); print a; print f(f(a)); print a; }":                                                       "6 5 7 5 done",
		"func f() int { var x int; x = x + 1; return x; } thread { var x int = 9; print f(); print f(); print x; }":                                                               "1 1 9 done",
		"func f(a int) { var b int = a; b = b + 1; print b; } thread { var b int = 3; f(b); print b; f(10); print b; }":                                                           "4 3 11 3 done",
		"func g(a int) int { var b int = a * 2; return b; } func f(a int) int { var b int = g(a + 1); return a * 100 + b; } thread { print f(3); }":                               "308 done",
		"record f { x int; } func g(f int) int { var h int = f; return h; } func h() int { return 1; } thread { var g int = g(5); var f int = h(); var h int = g + f; print h; }": "6 done",
		// A name is one thing in one list, and another in another one.
		"record r { x int; } thread { if 1 { var a int = 1; print a; } if 1 { var a r; print a == nil; } if 1 { var a [2]r = nil; print a == nil; } var a int = 4; print a; }":                                         "1 1 1 4 done",
		"record r { a int; b r; } func f(b r) int { var a int; if b == nil { a = 3; } return a; } thread { var b int = 2; if f(nil) { var a r; print a == nil; } else { var a int = 5; print a; } print b + f(nil); }": "1 5 done",
		"func f(a int, b int) int { return a * 10 + b; } thread { var a int = 1; var b int = 2; print f(b, a); print f(a, f(b, a)); print a; print b; }":                                                               "21 31 1 2 done",
		"func f(a int) int { if a { var b int = a; a = b - 1; } else { var b int = 7; a = b; } var b int = a + 1; return b; } thread { var b int = 5; print f(b); print f(0); print b; }":                              "5 8 5 done",
	} {
		testTold(t, text, "0*20", want)
		testAll(t, text)
	}
	// A reference is a local's as long as the thread goes on; what it names is what others see.
	testTold(t, "record r { x int; } shared g r; thread { var p r; var o r; atomic { p = new r; o = p; p.x = 1; g = p; } atomic { print o.x; p = nil; print p == nil; print o.x; } } thread { atomic { if g != nil { g.x = 5; } } }", "0 1 0*5", "5 1 5 done | ..")
	testTold(t, "func f(a int) { atomic { var b int = a; a = b + 1; } print a; } thread { var a int = 1; atomic { a = 5; var b int = 2; } f(a); print a; }", "0*10", "6 5 done")
	// Threads of one text have locals of their own.
	testTold(t, "thread { var x int; x = x + 1; print x; x = x + 1; print x; } thread { var x int; x = x + 10; print x; x = x + 1; print x; }", "0 1 0 1 0 1", "1 2 done | 10 11 done")
}

// TestChoices holds which list of a choice is gone through. (P11.3)
func TestChoices(t *testing.T) {
	for _, x := range []string{"1", "-1", "2", "9223372036854775807", "-9223372036854775808", "1 == 1", "!0", "1 && 2", "4294967296"} {
		testTold(t, "thread { if "+x+" { print 1; } else { print 2; } print 3; if "+x+" { print 4; } print 5; if "+x+" { } else { print 6; } }", "0*9", "1 3 4 5 done")
	}
	for _, x := range []string{"0", "1 == 2", "!1", "1 && 0", "5 - 5", "4294967296 * 4294967296"} {
		testTold(t, "thread { if "+x+" { print 1; } else { print 2; } print 3; if "+x+" { print 4; } print 5; if "+x+" { } else { print 6; } while "+x+" { print 7; } }", "0*9", "2 3 5 6 done")
	}
	testTold(t, "thread { var i int; while i < 4 { if i % 2 { if i > 2 { print i; } else { print -i; } } else { if i { } else { print 10; } print 20; } i = i + 1; } }", "0*9", "10 20 -1 20 3 done")
	testTold(t, "thread { if 1 { } else { } if 0 { } else { } if 1 { if 0 { } else { } } print 1; if 0 { } else { if 1 { } } if 1 { } print 2; if 0 { } }", "0*9", "1 2 done")
	testTold(t, "thread { var x int = 5; if x { } else { } if x { x = 0; } if x { print 1; } else { if x { } else { print 2; } } if x { } while x { } if x { } else { x = 3; } print x; }", "0*9", "2 3 done")
}

// TestLoops holds how often a loop is gone through: X is asked each time anew. (P11.3)
func TestLoops(t *testing.T) {
	for text, want := range map[string]string{
		"thread { while 0 { print 1; } print 2; }":                                                                               "2 done",
		"thread { while 0 { } }":                                                                                                 "done",
		"thread { while 0 { while 1 { } } while 0 { print 1; while 0 { } } }":                                                    "done",
		"thread { var i int = 3; while i { print i; i = i - 1; } print i; }":                                                     "3 2 1 0 done",
		"thread { var i int = -2; while i { i = i + 1; print i; } }":                                                             "-1 0 done",
		"thread { var i int; while i < 3 { var j int; while j < i { print i * 10 + j; j = j + 1; } i = i + 1; } }":               "10 20 21 done",
		"thread { var i int; var j int; while i < 3 { while j < 2 { j = j + 1; print j; } i = i + 1; } print i; }":               "1 2 3 done",
		"thread { var i int = 2; while i { i = i - 1; } while i < 2 { i = i + 1; print i; } while i { i = 0; } print i; }":       "1 2 0 done",
		"thread { var i int = 2; while i { while i { while i { i = i - 1; } } if i { } } print i; while i { } print 1; }":        "0 1 done",
		"func less(a int) int { return a - 1; } thread { var i int = 3; while less(i) { i = less(i); print i; } }":               "2 1 done",
		"thread { var a int = 1; var b int = 1; while b < 60 { print b; b = a + b; a = b - a; } }":                               "1 2 3 5 8 13 21 34 55 done",
		"thread { var i int; while i < 10 && (i < 3 || i % 2) { print i; i = i + 1; } print -i; }":                               "0 1 2 3 -4 done",
		"shared n int; thread { atomic { while n < 5 { n = n + 2; } print n; } }":                                                "6 done",
		"shared n int; thread { var i int; while i < 3 { atomic { n = n + i; print n; } i = i + 1; } atomic { print n * 10; } }": "0 1 3 30 done",
		"shared n int; func more() int { n = n + 1; return n < 4; } thread { atomic { while more() { print n; } print -n; } }":   "1 2 3 -4 done",
		"record r { n r; x int; } shared g r; thread { atomic { var i int; while i < 4 { var p r = new r; p.n = g; p.x = i; g = p; i = i + 1; } } atomic { var p r = g; while p != nil { print p.x; p = p.n; } } }": "3 2 1 0 done",
	} {
		testTold(t, text, "0*20", want)
		testAll(t, text)
	}
}

// TestCalls holds what calls do: with a result and without, in each place where one may stand; with returns in the midst of all, and without one. (P11.3)
func TestCalls(t *testing.T) {
	for text, want := range map[string]string{
		"func f() { } thread { f(); f(); print 1; }":                                                                                                                                                   "1 done",
		"func f() { print 1; print 2; } thread { f(); print 3; f(); }":                                                                                                                                 "1 2 3 1 2 done",
		"func f() { print 1; return; print 2; } thread { f(); print 3; }":                                                                                                                              "1 3 done",
		"func f(a int) { if a { return; } print 5; } thread { f(1); f(0); print 6; }":                                                                                                                  "5 6 done",
		"func f(a int) { while 1 { while a { print a; a = a - 1; if a == 1 { return; } } return; } print 9; } thread { f(3); f(0); print 6; }":                                                         "3 2 6 done",
		"func f() { return; } func g() { f(); print 1; f(); return; } thread { g(); print 2; }":                                                                                                        "1 2 done",
		"func f(a int) int { return a; } thread { f(1); f(1 / 1); print 3; }":                                                                                                                          "3 done",
		"func f(a int) int { return 1 / a; } thread { print 1; f(0); print 3; }":                                                                                                                       "1 zero",
		"func f(a int) int { while a { a = a - 1; if a == 3 { return 30; } } } thread { print f(5); print f(2); print f(3); }":                                                                         "30 0 0 done",
		"func f(a int) int { if a { } else { return 4; } return 5; } thread { print f(0) * 10 + f(1); }":                                                                                               "45 done",
		"func f(a int) int { if a { return 1; } else { return 2; } } thread { print f(0) * 10 + f(1); }":                                                                                               "21 done",
		"func f(a int) int { if a { return 1; } else { return 2; } return 1 / 0; } thread { print f(0) * 10 + f(1); }":                                                                                 "21 done",
		"func f(a int) int { if a == 1 { if 1 { return 10; } else { return 20; } } else { if a == 2 { return 30; } } if a { return 40; } } thread { print f(1); print f(2); print f(3); print f(0); }": "10 30 40 0 done",
		"func f(a int) int { while 1 { if a > 5 { return a; } a = a + 2; } } thread { print f(0) + f(9); print f(5); }":                                                                                "15 7 done",
		"func f(a int) int { while a { while a { return a; } return 1; } return 5; } thread { print f(0) * 10 + f(9); }":                                                                               "59 done",
		// What is answered within a function is not its own answer, nor that of an earlier call.
		"func g() int { return 5; } func f() int { g(); } thread { print f(); print g(); }":                                                              "0 5 done",
		"func g() int { return 5; } func f(a int) int { g(); if a { return 6; } g(); } thread { print f(0); print f(1); }":                               "0 6 done",
		"func g() { return; } func f() int { g(); return 7; } thread { print f(); f(); print f(); }":                                                     "7 7 done",
		"func f(a int) int { if a { return 5; } } thread { var i int; while i < 4 { print f(i % 2); i = i + 1; } }":                                      "0 5 0 5 done",
		"func f(a int) int { var z int; if a { z = a; } return z; } thread { var i int = 2; while i { i = i - 1; print f(i); } print f(3) + f(0) * 9; }": "1 0 3 done",
		// One function is called twice in one expression, and within its own arguments.
		"func f(a int) int { a = a * 2; return a + 1; } thread { print f(1) * 100 + f(2); print f(f(1) + f(f(0))); print f(1) == f(1); }":               "305 13 1 done",
		"func f(a int, b int) int { var c int = a; a = b; b = c; return a * 10 + b; } thread { print f(f(1, 2), f(3, 4)); print f(1, f(2, f(3, 4))); }": "451 4321 done",
		"func a() { print 1; b(); print 2; } func b() { print 3; c(5); print 4; } func c(x int) { print x; } thread { a(); c(6); }":                     "1 3 5 4 2 6 done",
		"func p(a int, b int) { print a; print b; } func s(a int) int { return a * a; } thread { p(s(2), s(s(2)) - 1); p(-1, 0); }":                     "4 15 -1 0 done",
	} {
		testTold(t, text, "0*20", want)
		testAll(t, text)
	}
}

// TestCallsInBlocks holds what calls do to what is shared, and what functions of each kind of result answer, without a return too. (P11.3)
func TestCallsInBlocks(t *testing.T) {
	for text, want := range map[string]string{
		"func f() { print n; n = n + 1; } thread { atomic { f(); f(); print 10; f(); } f2(); } func f2() { atomic { f(); } print 20; }":                                                                                                                               "0 1 10 2 3 20 done",
		"func f(p r) r { if p == nil { return new r; } } thread { atomic { print f(nil) == nil; print f(new r) == nil; g = f(nil); print g.x; } }":                                                                                                                    "0 1 0 done",
		"func f() [2]int { } func i() int { } func p() r { } func l() [2]r { } thread { atomic { print f() == nil; print i(); print p() == nil; print l() == nil; } }":                                                                                                "1 0 1 1 done",
		"func f() [2]int { return new [2]int; } func l(a r) [2]r { var l [2]r = new [2]r; l[1] = a; return l; } thread { atomic { print f()[1]; g = new r; print l(g)[1] == g; print l(g) == l(g); f()[0] = 5; l(g)[1].x = 6; print g.x; } }":                         "0 1 0 6 done",
		"func set(p r, x int) { p.x = x; p = nil; } thread { atomic { g = new r; var p r = g; set(p, 4); print p.x; print p == g; set(g, p.x + 1); print g.x; } }":                                                                                                    "4 1 5 done",
		"func next() int { n = n + 1; return n; } thread { atomic { print next(); next(); var x int = next() * 10; print x; if next() == 4 { print next(); } while next() < 8 { print n; } } }":                                                                       "1 30 5 6 7 done",
		"func mk(x int, b r) r { var p r = new r; p.x = x; p.n = b; return p; } thread { atomic { g = mk(1, mk(2, mk(3, nil))); print g.x; print g.n.x; print g.n.n.x; print g.n.n.n == nil; } }":                                                                     "1 2 3 1 done",
		"func find(p r, x int) r { while p != nil { if p.x == x { return p; } p = p.n; } } thread { atomic { g = new r; g.x = 1; g.n = new r; g.n.x = 2; print find(g, 2) == g.n; print find(g, 1) == g; print find(g, 3) == nil; find(g, 2).x = 7; print g.n.x; } }": "1 1 1 7 done",
		"func swap(a r, b r) { var x int = a.x; a.x = b.x; b.x = x; } thread { atomic { g = new r; g.n = new r; g.x = 3; g.n.x = 4; swap(g, g.n); print g.x * 10 + g.n.x; swap(g, g); print g.x; } }":                                                                 "43 4 done",
		"func none() r { return nil; } thread { atomic { print none() == nil; g = none(); print g == nil; var p r = none(); print p == g; } }":                                                                                                                        "1 1 1 done",
	} {
		testTold(t, "record r { x int; n r; } shared n int; shared g r; "+text, "0*20", want)
	}
}

// TestNothing holds programs in which nothing is done. (P11.3)
func TestNothing(t *testing.T) {
	testRows(t, "", row{"", ""}, row{"0 1 2 -1", ""})
	testRows(t, "record r { x int; } shared n int; func f() { print 1; }", row{"0 0", ""})
	testRows(t, "thread { }", row{"", ".."}, row{"0", "done"}, row{"0 0 1", "done"})
	testRows(t, "thread { } thread { print 1; } thread { } thread { if 0 { print 2; } while 0 { } }", row{"", ".. | .. | .. | .."}, row{"3 1 0", "done | 1 .. | .. | done"}, row{"0 1 2 3 1", "done | 1 done | done | done"})
}

// TestGreatPrograms holds programs that have as much of everything as they may. (P11.3)
func TestGreatPrograms(t *testing.T) {
	fields, params, args, sum := "", "", "", "p0"
	for i := range api.MaxFields {
		n := strconv.Itoa(i)
		fields += "x" + n + " int; "
		params += ", p" + n + " int"
		args += ", " + n + " + 1"
		if i > 0 {
			sum = "(" + sum + " + p" + n + ")"
		}
	}
	testTold(t, "func f("+params[2:]+") int { return "+sum+"; } thread { print f("+args[2:]+"); }", "0 0", "136 done")
	// Each field of each record is one of its own.
	text, set, tell, want := "", "", "", ""
	for i := range api.MaxRecords {
		r := "r" + strconv.Itoa(i)
		text += "record " + r + " { " + fields + "} shared g" + strconv.Itoa(i) + " " + r + "; "
		set += "g" + strconv.Itoa(i) + " = new " + r + "; "
		for j := range api.MaxFields / 4 {
			x := "g" + strconv.Itoa(i) + ".x" + strconv.Itoa(j*4+i%4)
			set += x + " = " + strconv.Itoa(i*16+j) + "; "
			tell += "print " + x + "; "
			want += strconv.Itoa(i*16+j) + " "
		}
	}
	testTold(t, text+"thread { atomic { "+set+"} } thread { atomic { "+tell+"} }", "0 1*80", ".. | "+want+"done")
	// As many functions as there may be call one another in the midst of expressions and of lists, which are as deep as they may be.
	text = "thread { print " + strings.Repeat("-", api.MaxNest-2) + "f0(1); } thread { h0(); } "
	for i := range api.MaxFuncs / 2 {
		call, next := "a", "print 7; atomic { print 8; }"
		if i+1 < api.MaxFuncs/2 {
			call, next = "f"+strconv.Itoa(i+1)+"(a + 1)", "h"+strconv.Itoa(i+1)+"();"
		}
		text += "func f" + strconv.Itoa(i) + "(a int) int { return " + strings.Repeat("!!", (api.MaxNest-5)/2) + "1 * (1 * (0 + " + call + ")); } "
		text += "func h" + strconv.Itoa(i) + "() { " + strings.Repeat("if 1 { ", api.MaxNest-2) + next + strings.Repeat(" }", api.MaxNest-2) + " print " + strconv.Itoa(i) + "; } "
	}
	testTold(t, text, "0 0 1*20", "16 done | 7 8 15 14 13 12 11 10 9 8 7 6 5 4 3 2 1 0 done")
	testTold(t, "thread { print 1; } thread { print 2; } thread { print 3; } thread { print 4; }", "3 2 3 0 1", "1 .. | 2 .. | 3 .. | 4 done")
}
