package lower_test

import (
	"math"
	"testing"

	"turnstile/api"
)

// TestNumbers holds what graphs make of numbers of all sorts, with each sign: those that wrap round among them. (P11.3)
func TestNumbers(t *testing.T) {
	some := []int64{0, 1, -1, 2, -2, 3, 7, -7, 63, 64, 1 << 31, -1 << 31, 1 << 32, math.MaxInt64, math.MaxInt64 - 1, math.MinInt64, math.MinInt64 + 1}
	same := func(what any, x api.Expr) string {
		p := printing(x)
		return testSame(t, what, p, lowered(t, what, p), []int{0})
	}
	ends := map[string]int{}
	for _, a := range some {
		same(a, numeral(a))
		same(a, of(api.ExNeg, numeral(a)))
		same(a, of(api.ExNot, numeral(a)))
		for _, b := range some {
			for k := api.ExAdd; k <= api.ExOr; k++ {
				ends[same([]any{a, k, b}, of(k, numeral(a), numeral(b)))]++
			}
		}
	}
	if len(ends) < 200 || ends["zero"] != 2*len(some) {
		t.Errorf("%d answers, %d times by nought", len(ends), ends["zero"])
	}
	for x, want := range map[string]string{
		"9223372036854775807 + 1": "-9223372036854775808", "-9223372036854775808 - 1": "9223372036854775807", "-(-9223372036854775808)": "-9223372036854775808", "-9223372036854775808 / -1": "-9223372036854775808", "-9223372036854775808 % -1": "0", "4294967296 * 4294967296": "0", "9223372036854775807 * 2": "-2",
	} {
		testTold(t, "thread { print "+x+"; }", "0", want+" ..")
		testTold(t, "shared n int; thread { atomic { n = "+x+"; } atomic { print n; } }", "0*4", want+" done")
	}
}

// TestExpressions holds values of expressions of each kind outside of blocks. (P11.3)
func TestExpressions(t *testing.T) {
	const ahead = "func one(a int) int { return a + 1; } func fives() int { return 5; } func nothing() int { } func late(a int, b int) int { if a { return b; } return one(b); } thread { var i int = 3; var j int = -4; var k int; print "
	for x, want := range map[string]string{
		"5": "5", "-5": "-5", "-9223372036854775808": "-9223372036854775808", "i": "3", "j": "-4", "k": "0", "-i": "-3", "--i": "3", "!i": "0", "!k": "1", "!!i": "1", "!!!j": "0", "-!k": "-1", "!-i": "0", "-(5)": "-5",
		"i + j": "-1", "i - j": "7", "j - i": "-7", "i * j": "-12", "j / i": "-1", "j % i": "-1", "i / j": "0", "i % j": "3", "-7 / 2": "-3", "-7 % 2": "-1", "7 / -2": "-3", "7 % -2": "1", "i - j - 1": "6", "i - (j - 1)": "8", "2 + 3 * 4": "14", "(2 + 3) * 4": "20",
		"i < j": "0", "j < i": "1", "i < i": "0", "i <= i": "1", "i <= j": "0", "i > j": "1", "j > i": "0", "i > i": "0", "i >= i": "1", "j >= i": "0", "i == 3": "1", "i == j": "0", "i != j": "1", "i != 3": "0",
		"i && j": "1", "j && k": "0", "k && i": "0", "k && k": "0", "i || k": "1", "k || j": "1", "k || k": "0", "2 && 2": "1", "0 || 2": "1", "i && j + 4": "0", "(i || k) + (i && j)": "2", "(i && i) == 1": "1", "nil == nil": "1", "nil != nil": "0",
		"one(i)": "4", "one(one(one(0)))": "3", "fives()": "5", "nothing()": "0", "one(nothing()) + fives() * one(1)": "11", "late(0, 7)": "8", "late(1, 7)": "7", "late(one(-1), one(1))": "3", "one(i < j || j < i)": "2", "late(late(0, 0), late(1, 1))": "1", "one(i) - one(j)": "7", "late(k, i) * 10 + late(i, k)": "40",
		// The second operand is come to only where the first one does not decide.
		"0 && 1 / 0": "0", "1 || 1 / 0": "1", "-1 || 1 / 0": "1", "0 && nothing() / nothing()": "0", "(0 && 1 / 0) || 5": "1", "(1 || 1 / 0) && 0": "0", "0 && 1 / 0 || 0 && 1 % 0": "0", "!(0 && 1 / 0)": "1", "one(0 && 1 / 0)": "1", "0 && (1 && 1 / 0)": "0", "1 || (0 || 1 / 0)": "1", "1 && (0 && 1 / 0)": "0", "0 || (1 || 1 / 0)": "1",
	} {
		testTold(t, ahead+x+"; }", "0", want+" ..")
		testTold(t, ahead+"-1; if "+x+" { print 1; } else { print 0; } while "+x+" { print 1 / 0; } }", "0*4", map[bool]string{true: "-1 0 done", false: "-1 1 zero"}[want == "0"])
	}
	for _, x := range []string{
		"1 / 0", "1 % 0", "0 / 0", "i / k", "i % k", "1 && 1 / 0", "0 || 1 / 0", "-(1 / 0)", "!(1 % 0)", "1 / 0 + 1", "1 + 1 / 0", "(1 / 0) * 0", "0 * (1 / 0)", "1 / 0 && 0", "1 / 0 || 1", "1 / 0 == 1 / 0", "1 < 1 / 0", "one(1 / 0)", "late(0, 1 / 0)", "late(1 / 0, 0)", "one(1) / nothing()", "fives() % one(-1)", "late(one(1 / k), 1)",
	} {
		testTold(t, ahead+x+"; }", "0 0", "zero")
	}
}

// TestReferences holds what is read, made and held against each other of records and arrays. (P11.3)
func TestReferences(t *testing.T) {
	for block, want := range map[string]string{
		"print g.x; print h.x; print h.y; print g.n == nil; print g.a == nil; print g.l == nil;":                                            "7 8 9 1 1 1",
		"print e[0]; print e[1]; print e[2]; print e[3]; print e[g.x - 6];":                                                                 "10 11 12 13 11",
		"print l[0] == nil; print l[1] == nil; print l[1] == g; print l[1].x; print g == l[1]; print l[2] != g;":                            "1 0 1 7 1 1",
		"print g == g; print g != g; print g == none; print none == none; print g == nil; print nil == g; print nil != g; print e == e;":    "1 0 0 1 0 0 1 1",
		"print new r == new r; print new r != new r; print new r == nil; print nil != new [2]int; print new [2]int == new [2]int;":          "0 1 0 1 0",
		"print new r.x; print new [3]int[2]; print new [3]r[0] == nil; print new r.n == nil; print new q.y; print new r.a == nil;":          "0 0 1 1 0 1",
		"print none == nil; print noarray == nil; print ref(1) == g; print noref(1) == none; print arr(1)[2]; print ref(1).x;":              "1 1 1 1 12 7",
		"g.n = new r; g.n.n = g; print g.n.n == g; print g.n.n.n.n.x; g.n.n.n.x = 5; print g.n.x; print g.x;":                               "1 7 5 7",
		"g.n = g; g.n.n.n.x = 4; print g.x; g.x = g.x + g.n.x; print g.x;":                                                                  "4 8",
		"g.a = new [2]int; g.a[1] = 6; print g.a[0]; print g.a[1]; g.l = new [2]r; g.l[0] = g; print g.l[0].l[0].a[1];":                     "0 6 6",
		"var p r = g; var o r = p; p.x = 1; print g.x; print o.x; p = new r; print p == o; print p.x; print o.x;":                           "1 1 0 0 1",
		"var a [4]int = e; a[3] = 5; print e[3]; e = new [4]int; print e[3]; print a[3]; print a == e;":                                     "5 0 5 0",
		"var p r; print p == nil; p = g; print p == nil; p = nil; print p == nil; print g == nil;":                                          "1 0 1 0",
		"h.x = 1; h.y = 2; print h.x; print h.y; h.x = h.y; h.y = 3; print h.x; print h.y;":                                                 "1 2 2 3",
		"var b [64]int = new [64]int; b[63] = 5; print b[63]; print b[0]; var c [1]r = new [1]r; c[0] = g; c[0].x = 2; print g.x;":          "5 0 2",
		"var x int = 5; g.x = x; x = 6; print g.x; h.x = x; print h.x; print x; var n r = g; n.n = n; n = nil; print g.n == g;":             "5 6 6 1",
		"g = nil; print l[1].x; l[1] = nil; print l[1] == g; none = new r; none.x = 3; print none.x; noarray = new [4]int; noarray[0] = 1;": "7 1 3",
		// New things are none's but their own: their words hold 0 and nil at first, and no other thing's.
		"var p r = new r; p.l = new [2]r; p.l[0] = new r; p.l[1] = new r; p.l[0].x = 1; p.l[1].x = 2; p.x = 3; p.a = new [2]int; p.a[0] = 4; p.a[1] = 5; print p.x; print p.l[0].x; print p.l[1].x; print p.a[0]; print p.a[1]; print p.n == nil; print p.l[0].n == nil;": "3 1 2 4 5 1 1",
		"var i int; while i < 3 { var p r = new r; print p.x; print p.n == g; p.x = 9; p.n = g; i = i + 1; }":                                                      "0 0 0 0 0 0",
		"var p [2]r = new [2]r; p[0] = new r; p[1] = p[0]; p[1].x = 6; print p[0].x; p[0] = new r; print p[0].x; print p[1].x; print p[0] == p[1];":                "6 0 6 0",
		"var a [2]r = new [2]r; var b [2]r = a; b[1] = g; print a[1].x; print a == b; b = new [2]r; print a == b; print b[1] == nil; print a[1] == g;":             "7 1 0 1 1",
		"g.l = l[1].l; print g.l == nil; g.l = new [2]r; g.l[1] = new r; g.l[1].a = new [2]int; g.l[1].a[g.x - 6] = 3; print g.l[1].a[1]; print l[1].l[1].a[0];":   "1 3 0",
		"print (g == nil) + (g != nil) * 2; print g == l[1] && l[1] == g; print g == nil || none == nil; if g == l[1] { print 8; } while none != nil { print 9; }": "2 1 1 8",
	} {
		testBlock(t, block, want+" done")
	}
}

// TestOrderWithin holds in which order the parts of an expression, of a call, of an assignment are worked out. (P11.3)
func TestOrderWithin(t *testing.T) {
	for _, sign := range []string{"+", "-", "*", "/", "%", "==", "!=", "<", "<=", ">", ">="} {
		testBlock(t, "var z int = say(1) "+sign+" say(2); print log; z = say(3) "+sign+" (say(5) "+sign+" say(4)); print log;", "12 12354 done")
	}
	for block, want := range map[string]string{
		"var z int = three(say(1), say(2), say(3)); print z; print log;":                            "123 123",
		"three(say(1), say(2) + say(3), say(4)); print log;":                                        "1234",
		"print three(say(1), three(say(2), say(3), say(4)), say(5)) > 0; print log;":                "1 12345",
		"print arr(1)[say(2)]; print log;":                                                          "12 12",
		"arr(1)[say(2)] = say(3); print log; print e[2];":                                           "123 3",
		"ref(1).x = say(2); print log; print g.x;":                                                  "12 2",
		"l[say(1)].x = say(2); print log; print g.x;":                                               "12 2",
		"e[say(1) + say(2)] = say(3) + say(4); print log; print e[3];":                              "1234 7",
		"print say(0) && say(1); print log; print say(2) && say(3); print log;":                     "0 0 1 23",
		"print say(1) || say(2); print log; print say(0) || say(3); print log;":                     "1 1 1 103",
		"print say(1) && say(0) && say(2); print log;":                                              "0 10",
		"print say(1) || say(2) && say(3); print log; print -say(4) + !say(5); print log;":          "1 1 -4 145",
		"s = say(1); s = s + say(2) * s; print s; print log; var z int = say(3); print log;":        "3 12 123",
		"if say(1) { say(2); } else { say(3); } if !say(4) { say(5); } else { say(6); } print log;": "1246",
		"var i int = 3; while say(i) { i = i - 1; } print log;":                                     "3210",
		"while log < 100 { say(1); } print log; print say(2); print log;":                           "111 2 1112",
		// What stands on the left is worked out ahead of what the right changes.
		"g.n = new r; g.n.x = 1; g.x = swap(); print l[1].x; print g.x;":                 "5 1",
		"e[s] = bump(); print e[0]; print e[1]; e[s] = bump() + s; print e[1]; print s;": "1 11 4 2",
		"print s + bump() + s; print bump() * s;":                                        "2 4",
		"print three(s, bump(), s) + three(bump(), bump(), s);":                          "244",
		"var z int = s; z = z + bump() + z; print z; z = bump() - z; print z;":           "1 1",
		"print g.x + swap2() + g.x; print g.x;":                                          "21 7",
		"g.x = g.x + swap2() * g.x; print g.x; print l[1].x;":                            "56 56",
	} {
		testBlock(t, block, want+" done")
	}
}
