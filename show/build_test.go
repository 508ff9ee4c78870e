package show_test

import (
	"math"
	"strings"
	"testing"

	"turnstile/api"
	"turnstile/show"
)

const (
	least    = int64(math.MinInt64)
	greatest = int64(math.MaxInt64)
)

// longName has as many bytes as a name may have.
var longName = strings.Repeat("z", 16)

var (
	intType  = api.Type{Kind: api.TyInt}
	refType  = api.Type{Kind: api.TyRef, Name: "r"}
	intArray = api.Type{Kind: api.TyArray, N: 2}
	refArray = api.Type{Kind: api.TyArray, Name: "r", N: 8}
	tooGreat = api.Type{Kind: api.TyArray, N: 65}
)

func number(n int64) api.Expr { return api.Expr{Kind: api.ExNumber, N: n} }

func name(s string) api.Expr { return api.Expr{Kind: api.ExName, Name: s} }

func field(x api.Expr, s string) api.Expr {
	return api.Expr{Kind: api.ExField, Name: s, Args: []api.Expr{x}}
}

func index(x, i api.Expr) api.Expr {
	return api.Expr{Kind: api.ExIndex, Args: []api.Expr{x, i}}
}

func made(t api.Type) api.Expr { return api.Expr{Kind: api.ExNew, Type: t} }

func call(s string, args ...api.Expr) api.Expr {
	return api.Expr{Kind: api.ExCall, Name: s, Args: args}
}

func neg(x api.Expr) api.Expr { return api.Expr{Kind: api.ExNeg, Args: []api.Expr{x}} }

func not(x api.Expr) api.Expr { return api.Expr{Kind: api.ExNot, Args: []api.Expr{x}} }

func two(k api.ExprKind, a, b api.Expr) api.Expr {
	return api.Expr{Kind: k, Args: []api.Expr{a, b}}
}

var (
	nilExpr = api.Expr{Kind: api.ExNil}
	a       = name("a")
	b       = name("b")
)

func variable(s string, t api.Type, x api.Expr) api.Stmt {
	return api.Stmt{Kind: api.StVar, Name: s, Type: t, X: x}
}

func set(x, y api.Expr) api.Stmt { return api.Stmt{Kind: api.StSet, X: x, Y: y} }

func branch(x api.Expr, body, other []api.Stmt) api.Stmt {
	return api.Stmt{Kind: api.StIf, X: x, Body: body, Else: other}
}

func while(x api.Expr, body ...api.Stmt) api.Stmt {
	return api.Stmt{Kind: api.StWhile, X: x, Body: body}
}

func atomic(body ...api.Stmt) api.Stmt { return api.Stmt{Kind: api.StAtomic, Body: body} }

func print(x api.Expr) api.Stmt { return api.Stmt{Kind: api.StPrint, X: x} }

func back(x api.Expr) api.Stmt { return api.Stmt{Kind: api.StReturn, X: x} }

func called(x api.Expr) api.Stmt { return api.Stmt{Kind: api.StCall, X: x} }

// thread is a program of one thread.
func thread(list ...api.Stmt) api.Program { return api.Program{Threads: [][]api.Stmt{list}} }

// signs are the kinds that stand between two operands.
var signs = map[api.ExprKind]string{
	api.ExAdd: "+", api.ExSub: "-", api.ExMul: "*", api.ExDiv: "/", api.ExMod: "%", api.ExEq: "==", api.ExNe: "!=",
	api.ExLt: "<", api.ExLe: "<=", api.ExGt: ">", api.ExGe: ">=", api.ExAnd: "&&", api.ExOr: "||",
}

// exprs are right expressions, one of each kind.
func exprs() []api.Expr {
	l := []api.Expr{number(5), nilExpr, a, field(a, "f"), index(a, b), made(refType), call("f", a, b), neg(a), not(a)}
	for k := api.ExAdd; k <= api.ExOr; k++ {
		l = append(l, two(k, a, b))
	}
	return l
}

// stmts are right statements, one of each kind.
func stmts() []api.Stmt {
	list := []api.Stmt{back(api.Expr{})}
	return []api.Stmt{
		variable("x", intType, a), set(a, b), branch(a, list, list), while(a, list...),
		atomic(list...), print(a), back(a), called(call("f")),
	}
}

// nested is so many times the same around an expression.
func nested(n int, around func(api.Expr) api.Expr, x api.Expr) api.Expr {
	for range n {
		x = around(x)
	}
	return x
}

// within is so many times the same around a list of statements.
func within(n int, around func([]api.Stmt) api.Stmt, list []api.Stmt) []api.Stmt {
	for range n {
		list = []api.Stmt{around(list)}
	}
	return list
}

// times is so many times the same.
func times[T any](n int, v T) []T {
	l := make([]T, n)
	for i := range l {
		l[i] = v
	}
	return l
}

// testCheck holds what Check finds, and that Program tells a text just if that is nothing.
func testCheck(t *testing.T, what string, p api.Program, want api.Errno) {
	t.Helper()
	if e := show.Check(p); e != want {
		t.Errorf("%s: Check found %d, not %d", what, e, want)
	}
	s, e := show.Program(p)
	if want != api.OK && (s != "" || e != want) {
		t.Errorf("%s: Program told %d bytes and the error %d, not %d", what, len(s), e, want)
	}
	if want == api.OK && e == api.OK && s == "" && (len(p.Records)+len(p.Shared)+len(p.Funcs)+len(p.Threads) > 0) {
		t.Errorf("%s: Program told nothing", what)
	}
}

// testExpr holds what is wrong with an expression: alone, as an X and as a Y.
func testExpr(t *testing.T, what string, x api.Expr, want api.Errno) {
	t.Helper()
	s, e := show.Expr(x)
	if e != want || (s == "") != (e != api.OK) {
		t.Errorf("%s: Expr told %q and the error %d, not %d", what, s, e, want)
	}
	testCheck(t, what+", as an X", thread(print(x)), want)
	testCheck(t, what+", as a Y", thread(set(a, x)), want)
}
