package parse_test

import (
	"strings"
	"testing"

	"turnstile/api"
	"turnstile/parse"
)

func TestThings(t *testing.T) {
	rows := []struct {
		text string
		x    api.Expr
	}{
		{"5", number(5)}, {"0", number(0)}, {"9223372036854775807", number(greatest)},
		{"nil", null}, {"a", a}, {"abcdefghijklmnop", name("abcdefghijklmnop")}, {"n_1", name("n_1")}, {"ints", name("ints")},
		{"new r", made(ref)}, {"new [2]int", made(wholes)}, {"new [8]r", made(refs)},
		{"new [1]int", made(api.Type{Kind: api.TyArray, N: 1})}, {"new [64]int", made(api.Type{Kind: api.TyArray, N: 64})},
		{"f()", call("f")}, {"f(a)", call("f", a)}, {"f(1, nil)", call("f", number(1), null)}, {"f(a + b, g(c), -5)", call("f", of(api.ExAdd, a, b), call("g", c), number(-5))},
		{"(a)", a}, {"((5))", number(5)}, {"(nil)", null}, {"(f())", call("f")}, {"f((a))", call("f", a)},
		{"a.f", dot(a, "f")}, {"a.f.g", dot(dot(a, "f"), "g")}, {"a[b]", of(api.ExIndex, a, b)}, {"a[b][c]", of(api.ExIndex, of(api.ExIndex, a, b), c)},
		{"a[b].f", dot(of(api.ExIndex, a, b), "f")}, {"a.f[b]", of(api.ExIndex, dot(a, "f"), b)}, {"a[b[c]]", of(api.ExIndex, a, of(api.ExIndex, b, c))},
		{"a[b + c]", of(api.ExIndex, a, of(api.ExAdd, b, c))}, {"a[(b)]", of(api.ExIndex, a, b)}, {"(a)[b]", of(api.ExIndex, a, b)},
		{"5.f", dot(number(5), "f")}, {"5[a]", of(api.ExIndex, number(5), a)}, {"nil.f", dot(null, "f")}, {"nil[a]", of(api.ExIndex, null, a)},
		{"f().f", dot(call("f"), "f")}, {"f(a)[b]", of(api.ExIndex, call("f", a), b)}, {"(a + b).f", dot(of(api.ExAdd, a, b), "f")},
		{"(!a).f", dot(of(api.ExNot, a), "f")}, {"(-a)[b]", of(api.ExIndex, of(api.ExNeg, a), b)},
		{"new r.f", dot(made(ref), "f")}, {"new r[0]", of(api.ExIndex, made(ref), number(0))}, {"new [2]int[0]", of(api.ExIndex, made(wholes), number(0))},
		{"new [8]r[1].f", dot(of(api.ExIndex, made(refs), number(1)), "f")}, {"(new r)", made(ref)},
	}
	for _, r := range rows {
		testExpr(t, r.text, r.x)
	}
}

func TestSignsAhead(t *testing.T) {
	neg := func(x api.Expr) api.Expr { return of(api.ExNeg, x) }
	not := func(x api.Expr) api.Expr { return of(api.ExNot, x) }
	rows := []struct {
		text string
		x    api.Expr
	}{
		{"-5", number(-5)}, {"- 5", number(-5)}, {"-// 7\n5", number(-5)}, {"-0", number(0)}, {"(-5)", number(-5)}, {"-9223372036854775807", number(least + 1)}, {"-9223372036854775808", number(least)},
		{"-(5)", neg(number(5))}, {"-(-5)", neg(number(-5))}, {"--5", neg(number(-5))}, {"- - 5", neg(number(-5))}, {"---5", neg(neg(number(-5)))}, {"--(5)", neg(neg(number(5)))},
		{"--9223372036854775808", neg(number(least))}, {"-(-9223372036854775808)", neg(number(least))}, {"!-9223372036854775808", not(number(least))},
		{"-5.f", dot(number(-5), "f")}, {"-5[a]", of(api.ExIndex, number(-5), a)}, {"--5.f", neg(dot(number(-5), "f"))}, {"-(5).f", neg(dot(number(5), "f"))}, {"-(5.f)", neg(dot(number(5), "f"))},
		{"(-5).f", dot(number(-5), "f")}, {"-9223372036854775808.f", dot(number(least), "f")}, {"-5.f.g[a]", of(api.ExIndex, dot(dot(number(-5), "f"), "g"), a)},
		{"-a", neg(a)}, {"!a", not(a)}, {"--a", neg(neg(a))}, {"!!a", not(not(a))}, {"-!a", neg(not(a))}, {"!-a", not(neg(a))}, {"!5", not(number(5))}, {"!-5", not(number(-5))}, {"-!5", neg(not(number(5)))}, {"!!5", not(not(number(5)))},
		{"-a.f", neg(dot(a, "f"))}, {"!a[b]", not(of(api.ExIndex, a, b))}, {"-f(5)", neg(call("f", number(5)))}, {"-nil", neg(null)}, {"!new r", not(made(ref))}, {"-new [2]int[0]", neg(of(api.ExIndex, made(wholes), number(0)))},
		{"-(a + b)", neg(of(api.ExAdd, a, b))}, {"-a + b", of(api.ExAdd, neg(a), b)}, {"!a == b", of(api.ExEq, not(a), b)}, {"-5 * -5", of(api.ExMul, number(-5), number(-5))},
		{"a -5", of(api.ExSub, a, number(5))}, {"a-5", of(api.ExSub, a, number(5))}, {"a - -5", of(api.ExSub, a, number(-5))}, {"a--5", of(api.ExSub, a, number(-5))}, {"a - - -5", of(api.ExSub, a, neg(number(-5)))},
		{"5-5", of(api.ExSub, number(5), number(5))}, {"a - !b", of(api.ExSub, a, not(b))}, {"a && !b || -c", of(api.ExOr, of(api.ExAnd, a, not(b)), neg(c))}, {"a - 5.f", of(api.ExSub, a, dot(number(5), "f"))},
		{"0 - 9223372036854775807", of(api.ExSub, number(0), number(greatest))}, {"0 - -9223372036854775808", of(api.ExSub, number(0), number(least))},
	}
	for _, r := range rows {
		testExpr(t, r.text, r.x)
	}
}

// sign stands between operands, and binds by its row; the loosest row is 0.
type sign struct {
	sign string
	kind api.ExprKind
	row  int
}

var between = []sign{
	{"||", api.ExOr, 0}, {"&&", api.ExAnd, 1}, {"==", api.ExEq, 2}, {"!=", api.ExNe, 2}, {"<", api.ExLt, 3}, {"<=", api.ExLe, 3}, {">", api.ExGt, 3}, {">=", api.ExGe, 3},
	{"+", api.ExAdd, 4}, {"-", api.ExSub, 4}, {"*", api.ExMul, 5}, {"/", api.ExDiv, 5}, {"%", api.ExMod, 5},
}

// parted is what operands are with signs (places of the table) between: parted at the last one of the loosest signs.
func parted(operands []api.Expr, signs []int) api.Expr {
	if len(signs) == 0 {
		return operands[0]
	}
	at := 0
	for i, s := range signs {
		if between[s].row <= between[signs[at]].row {
			at = i
		}
	}
	return of(between[signs[at]].kind, parted(operands[:at+1], signs[:at]), parted(operands[at+1:], signs[at+1:]))
}

// testSigns holds operands with these signs between.
func testSigns(t *testing.T, signs ...int) {
	t.Helper()
	operands, text := []api.Expr{a}, "a"
	for i, s := range signs {
		operand := []string{"b", "c", "d"}[i]
		operands = append(operands, name(operand))
		text += " " + between[s].sign + " " + operand
	}
	testExpr(t, text, parted(operands, signs))
}

func TestSignsBetween(t *testing.T) {
	all := len(between)
	for s := range all {
		testSigns(t, s)
		for u := range all {
			testSigns(t, s, u)
			for v := range all {
				testSigns(t, s, u, v)
			}
		}
	}
}

// TestWhatBindsHow holds some by hand, so that no table is trusted alone.
func TestWhatBindsHow(t *testing.T) {
	rows := []struct {
		text string
		x    api.Expr
	}{
		{"a + b * c", of(api.ExAdd, a, of(api.ExMul, b, c))},
		{"a * b + c", of(api.ExAdd, of(api.ExMul, a, b), c)},
		{"(a + b) * c", of(api.ExMul, of(api.ExAdd, a, b), c)},
		{"a - b - c", of(api.ExSub, of(api.ExSub, a, b), c)},
		{"a - (b - c)", of(api.ExSub, a, of(api.ExSub, b, c))},
		{"a / b * c % a", of(api.ExMod, of(api.ExMul, of(api.ExDiv, a, b), c), a)},
		{"a < b == c", of(api.ExEq, of(api.ExLt, a, b), c)},
		{"a == b < c", of(api.ExEq, a, of(api.ExLt, b, c))},
		{"a < b < c", of(api.ExLt, of(api.ExLt, a, b), c)},
		{"a == b != c", of(api.ExNe, of(api.ExEq, a, b), c)},
		{"a || b && c", of(api.ExOr, a, of(api.ExAnd, b, c))},
		{"a && b || c", of(api.ExOr, of(api.ExAnd, a, b), c)},
		{"a || b || c", of(api.ExOr, of(api.ExOr, a, b), c)},
		{"a && b == c", of(api.ExAnd, a, of(api.ExEq, b, c))},
		{"a + b <= c - 1", of(api.ExLe, of(api.ExAdd, a, b), of(api.ExSub, c, number(1)))},
		{"a<=b==-5", of(api.ExEq, of(api.ExLe, a, b), number(-5))},
		{"a || b && c == a < b + c * a", of(api.ExOr, a, of(api.ExAnd, b, of(api.ExEq, c, of(api.ExLt, a, of(api.ExAdd, b, of(api.ExMul, c, a))))))},
		{"a * b + c < a == b && c || a", of(api.ExOr, of(api.ExAnd, of(api.ExEq, of(api.ExLt, of(api.ExAdd, of(api.ExMul, a, b), c), a), b), c), a)},
	}
	for _, r := range rows {
		testExpr(t, r.text, r.x)
	}
}

func TestTextsThatAreNoExpression(t *testing.T) {
	wrong := []string{
		"", " ", "// a", "9223372036854775808", "(9223372036854775808)", "!9223372036854775808", "a - 9223372036854775808", "- (9223372036854775808)", "a[9223372036854775808]",
		"a b", "a 5", "5 5", "a;", "a =", "a = b", "a)", "a]", "a}", "(", ")", "(a", "(a b)", "()", "(a,b)", "[a]", "{a}", "a +", "a + + b", "* a", "a * * b", "a !b", "a ! b", "+a", "a - * b", "-", "!", "--", "-!",
		"a &&", "&& a", "a == = b", "a < > b", "a.", "a.5", "a.nil", "a.(f)", "a..f", ".f", "a.f.", "a[", "a[]", "a[b", "a[b,c]", "a[b)", "(a]", "a(b]", "a]b[", "5(a)", "nil(a)", "(f)(a)", "f(a)(b)", "a.f(b)", "a[b](c)",
		"f(", "f(a", "f(a,", "f(,)", "f(a,)", "f(,a)", "f(a b)", "f(a;b)", "f(a))", "new", "new int", "new 5", "new nil", "new new r", "new (r)", "new [", "new []int", "new [2", "new [2]", "new [2]5", "new [2]nil", "new [2][2]int",
		"new [0]int", "new [-1]int", "new [9223372036854775808]int", "new [a]int", "new [2,3]int", "new [(2)]int", "new [2]int(a)", "new r(a)", "new r r", "new [2 2]int", "[2]int", "int", "r int",
		"record", "shared", "func", "thread", "var", "if", "else", "while", "atomic", "print", "print a", "return", "return a", "a else b",
	}
	for _, s := range wrong {
		testExprError(t, s, api.ErrSyntax)
	}
	for _, s := range []string{"&", "a & b", "a |", "05", "9223372036854775809", "_a", "A", "a #", "abcdefghijklmnopq", "a b #", "(((#", strings.Repeat("(", 300) + "#"} {
		testExprError(t, s, api.ErrToken)
	}
}

// TestLimitsOfExpressions holds each limit, and one more; what is wrong behind tells whether a bracket or a sign was refused itself.
func TestLimitsOfExpressions(t *testing.T) {
	if x, e := parse.Expr(strings.Repeat("(", 256) + "5" + strings.Repeat(")", 256)); e != api.OK || x.N != 5 {
		t.Errorf("256 brackets: the error %d", e)
	}
	for _, open := range []string{"(", "a[", "f(", "-(", "f(a, "} {
		testExprError(t, strings.Repeat(open, 256)+";", api.ErrSyntax)
		testExprError(t, strings.Repeat(open, 257)+";", api.ErrLimit)
	}
	testExprError(t, strings.Repeat("(", 256)+"new [0]int", api.ErrLimit)
	testExprError(t, strings.Repeat("(", 255)+"new [0]int", api.ErrSyntax)
	testExprError(t, strings.Repeat("(", 256)+"a(", api.ErrLimit)
	testExprError(t, strings.Repeat("(", 256)+"5(", api.ErrSyntax)
	testExprError(t, strings.Repeat("(", 256)+"a {", api.ErrSyntax)
	for _, ahead := range []string{"-", "!", "- ", "!\n"} {
		testExprError(t, strings.Repeat(ahead, 256)+";", api.ErrSyntax)
		testExprError(t, strings.Repeat(ahead, 257)+";", api.ErrLimit)
		testExprError(t, "a - "+strings.Repeat(ahead, 256)+";", api.ErrSyntax)
		testExprError(t, "a - "+strings.Repeat(ahead, 257)+";", api.ErrLimit)
		testExprError(t, "-("+strings.Repeat(ahead, 256)+";", api.ErrSyntax)
	}
	testExprError(t, strings.Repeat("-!", 128)+"-;", api.ErrLimit)
	testExprError(t, strings.Repeat("-", 256)+"5;", api.ErrSyntax)
	testExprError(t, strings.Repeat("-", 257)+"5;", api.ErrLimit)
	testExpr(t, strings.Repeat("!", 15)+"a", nested(15, api.ExNot, a))
	testExprError(t, strings.Repeat("!", 16)+"a", api.ErrLimit)
	testExpr(t, strings.Repeat("-", 16)+"5", nested(15, api.ExNeg, number(-5)))
	testExprError(t, strings.Repeat("-", 17)+"5", api.ErrLimit)
	testExpr(t, strings.Repeat("a[", 15)+"a"+strings.Repeat("]", 15), indexed(15))
	testExprError(t, strings.Repeat("a[", 16)+"a"+strings.Repeat("]", 16), api.ErrLimit)
	testExprError(t, "a"+strings.Repeat(".f", 16), api.ErrLimit)
	testExprError(t, "a"+strings.Repeat(" + a", 16), api.ErrLimit)
	testExprError(t, "new [65]int", api.ErrLimit)
	testExprError(t, "new [9223372036854775807]r", api.ErrLimit)
	testExprError(t, "new [65]int int", api.ErrSyntax)
	// An expression alone is no statement's: all items may be its own.
	if x, e := parse.Expr("f(a" + strings.Repeat(",a", 1022) + ")"); e != api.OK || len(x.Args) != 1023 {
		t.Errorf("1024 items: the error %d", e)
	}
	testExprError(t, "f(a"+strings.Repeat(",a", 1023)+")", api.ErrLimit)
	testExpr(t, strings.TrimSuffix(strings.Repeat("(-(5))+", 9), "+"), sums(9))
	testExprError(t, strings.Repeat(" ", 65536)+"5", api.ErrLimit)
	testExprError(t, strings.Repeat("#", 65537), api.ErrLimit)
	if x, e := parse.Expr(strings.Repeat(" ", 65535) + "5"); e != api.OK || x.N != 5 {
		t.Errorf("a long text: the error %d", e)
	}
}

// TestBracketsThatAreClosed holds that those alone are counted that are open, and signs alone that stand in a row.
func TestBracketsThatAreClosed(t *testing.T) {
	text := "f(" + strings.Repeat("(((a))), ", 300) + strings.Repeat("b[b], ", 100) + strings.Repeat("f(), ", 100) + strings.Repeat("-!a, ", 99) + "c)"
	if x, e := parse.Expr(text); e != api.OK || len(x.Args) != 600 {
		t.Errorf("%d Args and the error %d", len(x.Args), e)
	}
	list := strings.Repeat("atomic { } if a { } else { } var a [2]int = new [2]int; f(); ", 100)
	if p, lines, _, e := parse.Program("func f(a [2]int) { " + list + "}"); e != api.OK || len(p.Funcs[0].Body) != 400 || len(lines) != 401 {
		t.Errorf("%d lines and the error %d", len(lines), e)
	}
}

// nested is so many times the same sign ahead of an expression.
func nested(n int, k api.ExprKind, x api.Expr) api.Expr {
	for range n {
		x = of(k, x)
	}
	return x
}

// indexed is so many times a[ with an a in it.
func indexed(n int) api.Expr {
	x := a
	for range n {
		x = of(api.ExIndex, a, x)
	}
	return x
}

// sums is a sum of so many - of 5.
func sums(n int) api.Expr {
	x := of(api.ExNeg, number(5))
	for range n - 1 {
		x = of(api.ExAdd, x, of(api.ExNeg, number(5)))
	}
	return x
}
