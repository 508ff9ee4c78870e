package parse_test

import (
	"math"
	"reflect"
	"slices"
	"testing"

	"turnstile/api"
	"turnstile/parse"
	"turnstile/types"
)

const (
	least    = int64(math.MinInt64)
	greatest = int64(math.MaxInt64)
)

var (
	none   = api.Expr{}
	null   = api.Expr{Kind: api.ExNil}
	a      = name("a")
	b      = name("b")
	c      = name("c")
	whole  = api.Type{Kind: api.TyInt}
	ref    = api.Type{Kind: api.TyRef, Name: "r"}
	wholes = api.Type{Kind: api.TyArray, N: 2}
	refs   = api.Type{Kind: api.TyArray, N: 8, Name: "r"}
)

func number(n int64) api.Expr { return api.Expr{Kind: api.ExNumber, N: n} }

func name(s string) api.Expr { return api.Expr{Kind: api.ExName, Name: s} }

func made(t api.Type) api.Expr { return api.Expr{Kind: api.ExNew, Type: t} }

// of is an expression of a kind that has Args alone.
func of(k api.ExprKind, args ...api.Expr) api.Expr { return api.Expr{Kind: k, Args: args} }

func dot(x api.Expr, s string) api.Expr {
	return api.Expr{Kind: api.ExField, Name: s, Args: []api.Expr{x}}
}

func call(s string, args ...api.Expr) api.Expr {
	return api.Expr{Kind: api.ExCall, Name: s, Args: args}
}

func stmt(k api.StmtKind, x api.Expr, body ...api.Stmt) api.Stmt {
	return api.Stmt{Kind: k, X: x, Body: body}
}

func set(x, y api.Expr) api.Stmt { return api.Stmt{Kind: api.StSet, X: x, Y: y} }

func variable(s string, t api.Type, x api.Expr) api.Stmt {
	return api.Stmt{Kind: api.StVar, Name: s, Type: t, X: x}
}

func thread(list ...api.Stmt) api.Program { return api.Program{Threads: [][]api.Stmt{list}} }

// testTree holds that a text is taken as a tree, with the lines of its places.
func testTree(t *testing.T, text string, want api.Program, wantLines ...int) {
	t.Helper()
	p, lines, line, e := parse.Program(text)
	if e != api.OK || line != 0 {
		t.Errorf("%s: the error %d at %d", short(text), e, line)
		return
	}
	if !reflect.DeepEqual(p, want) {
		t.Errorf("%s is %v, not %v", short(text), p, want)
	}
	if !slices.Equal(lines, wantLines) || len(lines) != types.Places(p) {
		t.Errorf("%s has its %d places at %v, not %v", short(text), types.Places(p), lines, wantLines)
	}
}

// testError holds the error of a text and its line, and that nothing else is answered.
func testError(t *testing.T, text string, wantLine int, want api.Errno) {
	t.Helper()
	p, lines, line, e := parse.Program(text)
	if e != want || line != wantLine {
		t.Errorf("%s: the error %d at %d, not %d at %d", short(text), e, line, want, wantLine)
	}
	if e != api.OK && (len(lines) != 0 || !reflect.ValueOf(p).IsZero()) {
		t.Errorf("%s: a tree and %d lines beside the error %d", short(text), len(lines), e)
	}
}

// testExpr holds that a text is an expression, alone and wherever one stands.
func testExpr(t *testing.T, text string, want api.Expr) {
	t.Helper()
	if x, e := parse.Expr(text); e != api.OK || !reflect.DeepEqual(x, want) {
		t.Errorf("%s is %v with the error %d, not %v", short(text), x, e, want)
	}
	testTree(t, "thread { print "+text+"\n; }", thread(stmt(api.StPrint, want)), 0, 0)
	testTree(t, "thread { a = "+text+"\n; }", thread(set(a, want)), 0, 0)
	testTree(t, "thread { var a int = "+text+"\n; }", thread(variable("a", whole, want)), 0, 0)
	testTree(t, "thread { return "+text+"\n; }", thread(stmt(api.StReturn, want)), 0, 0)
	testTree(t, "thread { while "+text+"\n{ } }", thread(stmt(api.StWhile, want)), 0, 0)
	testTree(t, "thread { if "+text+"\n{ } }", thread(stmt(api.StIf, want)), 0, 0)
}

func testExprError(t *testing.T, text string, want api.Errno) {
	t.Helper()
	x, e := parse.Expr(text)
	if e != want {
		t.Errorf("%s is %v with the error %d, not %d", short(text), x, e, want)
	}
	if e != api.OK && !reflect.ValueOf(x).IsZero() {
		t.Errorf("%s: an expression beside the error %d", short(text), e)
	}
}

// short is what a test tells of a text.
func short(text string) string {
	if len(text) > 400 {
		text = text[:200] + " .. " + text[len(text)-200:]
	}
	return "'" + text + "'"
}
