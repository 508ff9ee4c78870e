package source_test

import (
	"math"
	"strconv"
	"testing"

	"turnstile/api"
)

func number(n int64) api.Expr { return api.Expr{Kind: api.ExNumber, N: n} }

func of(k api.ExprKind, args ...api.Expr) api.Expr { return api.Expr{Kind: k, Args: args} }

// printing is a program of one thread that prints an expression.
func printing(x api.Expr) api.Program {
	return api.Program{Threads: [][]api.Stmt{{{Kind: api.StPrint, X: x}}}}
}

func truth(is bool) int64 {
	if is {
		return 1
	}
	return 0
}

// ofNumbers is what is worked out of numbers; false, where nought divides.
func ofNumbers(k api.ExprKind, a, b int64) (int64, bool) {
	switch k {
	case api.ExAdd:
		return a + b, true
	case api.ExSub:
		return a - b, true
	case api.ExMul:
		return a * b, true
	case api.ExDiv, api.ExMod:
		if b == 0 {
			return 0, false
		}
		if k == api.ExDiv {
			return a / b, true
		}
		return a - b*(a/b), true
	case api.ExEq:
		return truth(a == b), true
	case api.ExNe:
		return truth(a != b), true
	case api.ExLt:
		return truth(a < b), true
	case api.ExLe:
		return truth(a <= b), true
	case api.ExGt:
		return truth(a > b), true
	case api.ExGe:
		return truth(a >= b), true
	case api.ExAnd:
		return truth(a != 0 && b != 0), true
	}
	return truth(a != 0 || b != 0), true
}

// TestNumbers holds what each sign makes of numbers of all sorts.
func TestNumbers(t *testing.T) {
	some := []int64{0, 1, -1, 2, -2, 3, 7, -7, 63, 64, 1 << 31, -1 << 31, 1 << 32, math.MaxInt64, math.MaxInt64 - 1, math.MinInt64, math.MinInt64 + 1}
	for _, a := range some {
		testTree(t, a, printing(number(a)), []int{0}, plenty, strconv.FormatInt(a, 10)+" ..")
		testTree(t, a, printing(of(api.ExNeg, number(a))), []int{0}, plenty, strconv.FormatInt(-a, 10)+" ..")
		testTree(t, a, printing(of(api.ExNot, number(a))), []int{0}, plenty, strconv.FormatInt(truth(a == 0), 10)+" ..")
		for _, b := range some {
			for k := api.ExAdd; k <= api.ExOr; k++ {
				want := "zero"
				if n, ok := ofNumbers(k, a, b); ok {
					want = strconv.FormatInt(n, 10) + " .."
				}
				testTree(t, []any{a, k, b}, printing(of(k, number(a), number(b))), []int{0}, plenty, want)
			}
		}
	}
}

// TestExpressions holds values of expressions of each kind outside of blocks.
func TestExpressions(t *testing.T) {
	const ahead = "func one(a int) int { return a + 1; } func fives() int { return 5; } func nothing() int { } func late(a int, b int) int { if a { return b; } return one(b); } thread { var i int = 3; var j int = -4; var k int; print "
	for x, want := range map[string]string{
		"5": "5", "-5": "-5", "-9223372036854775808": "-9223372036854775808", "-(-9223372036854775808)": "-9223372036854775808", "9223372036854775807 + 1": "-9223372036854775808",
		"i": "3", "j": "-4", "k": "0", "-i": "-3", "--i": "3", "!i": "0", "!k": "1", "!!i": "1", "!!!j": "0", "-!k": "-1",
		"i + j": "-1", "i - j": "7", "j - i": "-7", "i * j": "-12", "j / i": "-1", "j % i": "-1", "i / j": "0", "i % j": "3", "-7 / 2": "-3", "-7 % 2": "-1", "7 / -2": "-3", "7 % -2": "1",
		"-9223372036854775808 / -1": "-9223372036854775808", "-9223372036854775808 % -1": "0",
		"i - j - 1": "6", "i - (j - 1)": "8", "2 + 3 * 4": "14", "(2 + 3) * 4": "20",
		"i < j": "0", "j < i": "1", "i < i": "0", "i <= i": "1", "i <= j": "0", "i > j": "1", "j > i": "0", "i > i": "0", "i >= i": "1", "j >= i": "0", "i == 3": "1", "i == j": "0", "i != j": "1", "i != 3": "0",
		"i && j": "1", "j && k": "0", "k && i": "0", "k && k": "0", "i || k": "1", "k || j": "1", "k || k": "0", "2 && 2": "1", "0 || 2": "1", "nil == nil": "1", "nil != nil": "0",
		"one(i)": "4", "one(one(one(0)))": "3", "fives()": "5", "nothing()": "0", "one(nothing()) + fives() * one(1)": "11", "late(0, 7)": "8", "late(1, 7)": "7", "late(one(-1), one(1))": "3", "one(i < j || j < i)": "2",
		// The second operand is come to only where the first one does not decide.
		"0 && 1 / 0": "0", "1 || 1 / 0": "1", "-1 || 1 / 0": "1", "0 && nothing() / nothing()": "0", "(0 && 1 / 0) || 5": "1", "(1 || 1 / 0) && 0": "0", "0 && 1 / 0 || 0 && 1 % 0": "0", "!(0 && 1 / 0)": "1",
	} {
		testTree(t, x, read(t, ahead+x+"; }"), []int{0}, plenty, want+" ..")
	}
	for _, x := range []string{
		"1 / 0", "1 % 0", "0 / 0", "i / k", "i % k", "1 && 1 / 0", "0 || 1 / 0", "-(1 / 0)", "!(1 % 0)", "1 / 0 + 1", "1 + 1 / 0", "(1 / 0) * 0", "0 * (1 / 0)", "1 / 0 && 0", "1 / 0 || 1", "1 / 0 == 1 / 0", "1 < 1 / 0",
		"one(1 / 0)", "late(0, 1 / 0)", "late(1 / 0, 0)", "one(1) / nothing()", "fives() % one(-1)", "late(one(1 / k), 1)",
	} {
		testTree(t, x, read(t, ahead+x+"; }"), []int{0, 0}, plenty, "zero")
	}
}

// TestReferences holds what is read, made and held against each other of records and arrays.
func TestReferences(t *testing.T) {
	for block, want := range map[string]string{
		"print g.x; print h.x; print h.y; print g.n == nil; print g.a == nil; print g.l == nil;":                                            "7 8 9 1 1 1",
		"print e[0]; print e[1]; print e[2]; print e[3]; print e[g.x - 6];":                                                                 "10 11 12 13 11",
		"print l[0] == nil; print l[1] == nil; print l[1] == g; print l[1].x; print g == l[1]; print l[2] != g;":                            "1 0 1 7 1 1",
		"print g == g; print g != g; print g == none; print none == none; print g == nil; print nil == g; print nil != g; print e == e;":    "1 0 0 1 0 0 1 1",
		"print new r == new r; print new r != new r; print new r == nil; print nil != new [2]int; print new [2]int == new [2]int;":          "0 1 0 1 0",
		"print new r.x; print new [3]int[2]; print new [3]r[0] == nil; print new r.n == nil; print new q.y; print new r.a == nil;":          "0 0 1 1 0 1",
		"print none == nil; print noarray == nil; print ref(1) == g; print noref(1) == none; print arr(1)[2]; print ref(1).x;":              "1 1 1 1 12 7",
		"g.n = new r; g.n.n = g; print g.n.n == g; print g.n.n.n.n.x; g.n.n.n.x = 5; print g.n.x; print g.x;":                               "1 7 5 7",
		"g.n = g; g.n.n.n.x = 4; print g.x; g.x = g.x + g.n.x; print g.x;":                                                                  "4 8",
		"g.a = new [2]int; g.a[1] = 6; print g.a[0]; print g.a[1]; g.l = new [2]r; g.l[0] = g; print g.l[0].l[0].a[1];":                     "0 6 6",
		"var p r = g; var o r = p; p.x = 1; print g.x; print o.x; p = new r; print p == o; print p.x; print o.x;":                           "1 1 0 0 1",
		"var a [4]int = e; a[3] = 5; print e[3]; e = new [4]int; print e[3]; print a[3]; print a == e;":                                     "5 0 5 0",
		"var p r; print p == nil; p = g; print p == nil; p = nil; print p == nil; print g == nil;":                                          "1 0 1 0",
		"h.x = 1; h.y = 2; print h.x; print h.y; h.x = h.y; h.y = 3; print h.x; print h.y;":                                                 "1 2 2 3",
		"var b [64]int = new [64]int; b[63] = 5; print b[63]; print b[0]; var c [1]r = new [1]r; c[0] = g; c[0].x = 2; print g.x;":          "5 0 2",
		"var x int = 5; g.x = x; x = 6; print g.x; h.x = x; print h.x; print x; var n r = g; n.n = n; n = nil; print g.n == g;":             "5 6 6 1",
		"g = nil; print l[1].x; l[1] = nil; print l[1] == g; none = new r; none.x = 3; print none.x; noarray = new [4]int; noarray[0] = 1;": "7 1 3",
	} {
		testBlock(t, block, want+" done")
	}
}

// TestOrderWithin holds in which order the parts of an expression, of a call, of an assignment are worked out.
func TestOrderWithin(t *testing.T) {
	for _, sign := range []string{"+", "-", "*", "/", "%", "==", "!=", "<", "<=", ">", ">="} {
		testBlock(t, "var z int = say(1) "+sign+" say(2); print log; z = say(3) "+sign+" (say(5) "+sign+" say(4)); print log;", "12 12354 done")
	}
	for block, want := range map[string]string{
		"var z int = three(say(1), say(2), say(3)); print z; print log;":                            "123 123",
		"three(say(1), say(2) + say(3), say(4)); print log;":                                        "1234",
		"print three(say(1), three(say(2), say(3), say(4)), say(5)) > 0; print log;":                "1 12345",
		"print arr(1)[say(2)]; print log;":                                                          "12 12",
		"arr(1)[say(2)] = say(3); print log; print e[2];":                                           "123 3",
		"ref(1).x = say(2); print log; print g.x;":                                                  "12 2",
		"l[say(1)].x = say(2); print log; print g.x;":                                               "12 2",
		"e[say(1) + say(2)] = say(3) + say(4); print log; print e[3];":                              "1234 7",
		"print say(0) && say(1); print log; print say(2) && say(3); print log;":                     "0 0 1 23",
		"print say(1) || say(2); print log; print say(0) || say(3); print log;":                     "1 1 1 103",
		"print say(1) && say(0) && say(2); print log;":                                              "0 10",
		"print say(1) || say(2) && say(3); print log; print -say(4) + !say(5); print log;":          "1 1 -4 145",
		"s = say(1); s = s + say(2) * s; print s; print log; var z int = say(3); print log;":        "3 12 123",
		"if say(1) { say(2); } else { say(3); } if !say(4) { say(5); } else { say(6); } print log;": "1246",
		"var i int = 3; while say(i) { i = i - 1; } print log;":                                     "3210",
		"while log < 100 { say(1); } print log; print say(2); print log;":                           "111 2 1112",
		// What stands on the left is worked out ahead of what the right changes.
		"g.n = new r; g.n.x = 1; g.x = swap(); print l[1].x; print g.x;":                 "5 1",
		"e[s] = bump(); print e[0]; print e[1]; e[s] = bump() + s; print e[1]; print s;": "1 11 4 2",
		"print s + bump() + s; print bump() * s;":                                        "2 4",
	} {
		testBlock(t, block, want+" done")
	}
}
