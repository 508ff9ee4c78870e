package source_test

import (
	"math"
	"slices"
	"testing"

	"turnstile/api"
	"turnstile/effect"
	"turnstile/types"
)

// wrongFuels are fuels that may not be, and whether there is too little.
func wrongFuels() map[int]bool {
	return map[int]bool{0: true, -1: true, -2: true, math.MinInt: true, -api.MaxFuel: true, api.MaxFuel + 1: false, api.MaxFuel + 2: false, 1 << 32: false, math.MaxInt: false}
}

// testRefused holds ErrArg of a program that is not right, whatever is given with it.
func testRefused(t *testing.T, what any, p api.Program) {
	t.Helper()
	many := make([]int, api.MaxPicks+1)
	for _, picks := range [][]int{nil, {}, {0}, {0, 1, 5, -1}, many} {
		for _, fuel := range []int{1, 100, api.MaxFuel, 0, -1, api.MaxFuel + 1, math.MaxInt, math.MinInt} {
			testTree(t, what, p, picks, fuel, "the error 1")
		}
	}
}

// TestOrderOfErrors holds which error is answered where several apply.
func TestOrderOfErrors(t *testing.T) {
	p := read(t, "thread { print 1; }")
	most := make([]int, api.MaxPicks)
	tooMany := make([]int, api.MaxPicks+1)
	for _, picks := range [][]int{nil, {}, {0}, {1}, most, tooMany, append(tooMany, tooMany...)} {
		for fuel, tooLittle := range wrongFuels() {
			want := "the error 3"
			if tooLittle {
				want = "the error 1"
			}
			testTree(t, "a wrong fuel", p, picks, fuel, want)
			testTree(t, "a wrong fuel and no thread", api.Program{}, picks, fuel, want)
		}
	}
	for _, fuel := range []int{1, 2, 100, api.MaxFuel} {
		testTree(t, "too many picks", p, tooMany, fuel, "the error 3")
		testTree(t, "too many picks of nothing", p, slices.Repeat([]int{-1}, api.MaxPicks+1), fuel, "the error 3")
		testTree(t, "too many picks and no thread", api.Program{}, tooMany, fuel, "the error 3")
	}
	testTree(t, "most picks", p, most, 2, "1 done")
	testTree(t, "most picks", p, most, api.MaxFuel, "1 done")
	testTree(t, "least fuel", p, most, 1, ".. short")
}

// TestTypesRefuses holds ErrArg of what types finds.
func TestTypesRefuses(t *testing.T) {
	for _, text := range []string{
		"thread { print x; }", "thread { print nil; }", "thread { var x int; var x int; }", "thread { if 1 { var x int; } print x; }", "thread { var x r; }", "thread { var x int = nil; }", "thread { var x int; x = nil; }", "thread { f(); }", "func f(a int) { } thread { f(); }", "func f() { } thread { print f(); }", "func f() { } func f() { }",
		"record r { x r; x r; }", "record r { x q; }", "shared n int; shared n int; thread { print 1; }", "shared n int; thread { var n int; }", "shared r int; record r { x int; }", "func f() int { return; }", "func f() { return 1; }", "func f(a int, a int) { }", "thread { return 1; }", "thread { print 1; } thread { print 1 + nil; }",
		"record r { x int; } shared g r; thread { atomic { g.y = 1; } }", "record r { x int; } shared g r; thread { atomic { g[0] = 1; } }", "shared e [2]int; thread { atomic { e = new [3]int; } }", "shared e [2]int; thread { atomic { print e.x; } }", "thread { if nil { } }", "thread { while nil { } }", "thread { print !nil; }", "thread { print 1 == nil; }",
	} {
		p := parsed(t, text)
		if _, e := types.Check(p); e == api.OK {
			t.Errorf("%s: types finds nothing", text)
		}
		testRefused(t, text, p)
	}
}

// TestEffectRefuses holds ErrArg of what effect finds where types finds nothing.
func TestEffectRefuses(t *testing.T) {
	for _, text := range []string{
		"shared n int; thread { n = 1; }", "shared n int; thread { print n; }", "shared n int; func f() { n = 1; } thread { f(); }", "func f() { atomic { } } thread { atomic { f(); } }", "thread { atomic { atomic { } } }", "func f(x int) int { return f(x); }", "func f() { g(); } func g() { f(); }", "func f() { f(); } thread { print 1; }",
		"func f() int { print 1; return 1; }", "func f() int { atomic { } }", "thread { return; }", "thread { atomic { return; } }", "func f() { atomic { return; } }", "shared n int; func f() { n = 1; atomic { n = 2; } }", "record r { x int; } thread { var p r; print p.x; }", "record r { x int; } thread { var p r = new r; }", "thread { var e [2]int; e[0] = 1; }", "thread { print 1; } thread { } thread { print new [2]int == nil; }",
	} {
		p := parsed(t, text)
		if place, e := types.Check(p); e != api.OK {
			t.Errorf("%s: types finds the error %d at %d", text, e, place)
		}
		if _, e := effect.Check(p); e == api.OK {
			t.Errorf("%s: effect finds nothing", text)
		}
		testRefused(t, text, p)
	}
}

// TestTreesThatMayNotBe holds ErrArg of trees of which there is no text.
func TestTreesThatMayNotBe(t *testing.T) {
	one := number(1)
	tell := api.Stmt{Kind: api.StPrint, X: one}
	deep := one
	for range 1000 {
		deep = of(api.ExNeg, deep)
	}
	nested := []api.Stmt{tell}
	for range 1000 {
		nested = []api.Stmt{{Kind: api.StIf, X: one, Body: nested}}
	}
	for what, list := range map[string][]api.Stmt{
		"no statement": {{}}, "a print of nothing": {{Kind: api.StPrint}}, "a statement of no kind": {{Kind: api.StCall + 1}}, "one kind more": {{Kind: 255, X: one}}, "a loop of nothing": {{Kind: api.StWhile}}, "a set of nothing": {{Kind: api.StSet}}, "a set of a number": {{Kind: api.StSet, X: one, Y: one}}, "a call of nothing": {{Kind: api.StCall}}, "a call of a number": {{Kind: api.StCall, X: one}},
		"a print with a list": {{Kind: api.StPrint, X: one, Body: []api.Stmt{tell}}}, "a print with a name": {{Kind: api.StPrint, X: one, Name: "a"}}, "a variable of no type": {{Kind: api.StVar, Name: "a"}}, "a variable of no name": {{Kind: api.StVar, Type: api.Type{Kind: api.TyInt}}},
		"an expression of no kind": {{Kind: api.StPrint, X: of(api.ExOr+1, one, one)}}, "a sum of one": {{Kind: api.StPrint, X: of(api.ExAdd, one)}}, "a sum of none": {{Kind: api.StPrint, X: of(api.ExAdd)}}, "a sum of three": {{Kind: api.StPrint, X: of(api.ExAdd, one, one, one)}}, "an and of one": {{Kind: api.StPrint, X: of(api.ExAnd, one)}}, "a part that is none": {{Kind: api.StPrint, X: of(api.ExNot, api.Expr{})}},
		"an expression that is too deep": {{Kind: api.StPrint, X: deep}}, "a list that is too deep": nested, "too many statements": slices.Repeat([]api.Stmt{tell}, api.MaxItems),
	} {
		testRefused(t, what, api.Program{Threads: [][]api.Stmt{list}})
		testRefused(t, what, api.Program{Funcs: []api.Func{{Name: "f", Body: list}}, Threads: [][]api.Stmt{{tell}}})
	}
	testRefused(t, "too many threads", api.Program{Threads: make([][]api.Stmt, api.MaxThreads+1)})
	testRefused(t, "too many functions", api.Program{Funcs: make([]api.Func, api.MaxFuncs+1)})
	testRefused(t, "too many records", api.Program{Records: make([]api.Record, api.MaxRecords+1)})
	testRefused(t, "a record without fields", api.Program{Records: []api.Record{{Name: "r"}}})
	testRefused(t, "a record whose name is none", api.Program{Records: []api.Record{{Name: "R", Fields: []api.Field{{Name: "x", Type: api.Type{Kind: api.TyInt}}}}}})
	testRefused(t, "an array that is too long", api.Program{Shared: []api.Field{{Name: "a", Type: api.Type{Kind: api.TyArray, N: api.MaxArray + 1}}}})
}
