package lower_test

import (
	"slices"
	"testing"

	"turnstile/api"
	"turnstile/effect"
	"turnstile/show"
	"turnstile/types"
)

// TestTypesRefuses holds ErrArg of what types finds. (P11.1)
func TestTypesRefuses(t *testing.T) {
	for text, want := range map[string]api.Errno{
		"thread { print x; }": api.ErrGone, "thread { if 1 { var x int; } print x; }": api.ErrGone, "thread { var x r; }": api.ErrGone, "thread { f(); }": api.ErrGone, "record r { x q; }": api.ErrGone, "shared g r;": api.ErrGone, "func f(a r) { }": api.ErrGone, "func f() [2]r { return nil; }": api.ErrGone, "thread { atomic { var x int = new r == nil; } }": api.ErrGone,
		"record r { x int; } shared g r; thread { atomic { g.y = 1; } }": api.ErrGone, "thread { x = 1; }": api.ErrGone, "thread { print f(g()); } func f(a int) int { return a; }": api.ErrGone, "func f() { print x; } thread { var x int; f(); }": api.ErrGone, "thread { while 1 { var i int; } i = 1; }": api.ErrGone,
		"thread { var x int; var x int; }": api.ErrTwice, "record r { x r; x r; }": api.ErrTwice, "shared n int; shared n int; thread { print 1; }": api.ErrTwice, "shared n int; thread { var n int; }": api.ErrTwice, "shared r int; record r { x int; }": api.ErrTwice, "func f() { } func f() { }": api.ErrTwice, "func f(a int, a int) { }": api.ErrTwice, "func f(a int) { var a int; }": api.ErrTwice, "thread { var x int; if 1 { var x int; } }": api.ErrTwice, "shared a int; func f(a int) { }": api.ErrTwice,
		"thread { print nil; }": api.ErrType, "thread { var x int = nil; }": api.ErrType, "thread { var x int; x = nil; }": api.ErrType, "func f(a int) { } thread { f(); }": api.ErrType, "func f(a int) { } thread { f(nil); }": api.ErrType, "func f() { } thread { print f(); }": api.ErrType, "func f() int { return; }": api.ErrType, "func f() { return 1; }": api.ErrType, "func f() int { return nil; }": api.ErrType, "thread { return 1; }": api.ErrType, "thread { print 1; } thread { print 1 + nil; }": api.ErrType, "thread { if nil { } }": api.ErrType, "thread { while nil { } }": api.ErrType, "thread { print !nil; }": api.ErrType, "thread { print -nil; }": api.ErrType, "thread { print 1 && nil; }": api.ErrType, "thread { print 1 == nil; }": api.ErrType,
		"record r { x int; } shared g r; thread { atomic { g[0] = 1; } }": api.ErrType, "shared e [2]int; thread { atomic { e = new [3]int; } }": api.ErrType, "shared e [2]int; thread { atomic { print e.x; } }": api.ErrType, "record r { x int; } record q { x int; } shared g r; thread { atomic { g = new q; } }": api.ErrType, "record r { x int; } thread { var a [2]r; var b [2]int; print a == b; }": api.ErrType, "shared e [2]int; thread { atomic { e[nil] = 1; } }": api.ErrType,
	} {
		p := parsed(t, text)
		if _, e := types.Check(p); e != want {
			t.Errorf("%s: types finds the error %d, not %d", text, e, want)
		}
		testRefused(t, text, p, api.ErrArg)
	}
}

// TestEffectRefuses holds ErrArg of what effect finds where types finds nothing. (P11.1)
func TestEffectRefuses(t *testing.T) {
	for text, want := range map[string]api.Errno{
		"shared n int; thread { n = 1; }": api.ErrEffect, "shared n int; thread { print n; }": api.ErrEffect, "shared n int; thread { var i int = n; }": api.ErrEffect, "shared n int; func f() { n = 1; } thread { f(); }": api.ErrEffect, "func f() { atomic { } } thread { atomic { f(); } }": api.ErrEffect, "thread { atomic { atomic { } } }": api.ErrEffect, "func f() { atomic { } } func g() { f(); } thread { atomic { g(); } }": api.ErrEffect,
		"func f() int { print 1; return 1; }": api.ErrEffect, "func f() int { atomic { } }": api.ErrEffect, "func f() int { g(); } func g() { print 1; }": api.ErrEffect, "thread { return; }": api.ErrEffect, "thread { atomic { return; } }": api.ErrEffect, "thread { while 1 { return; } }": api.ErrEffect, "func f() { atomic { return; } }": api.ErrEffect, "shared n int; func f() { n = 1; atomic { n = 2; } }": api.ErrEffect,
		"record r { x int; } thread { var p r; print p.x; }": api.ErrEffect, "record r { x int; } thread { var p r = new r; }": api.ErrEffect, "thread { var e [2]int; e[0] = 1; }": api.ErrEffect, "thread { print 1; } thread { } thread { print new [2]int == nil; }": api.ErrEffect,
		"func f(x int) int { return f(x); }": api.ErrRing, "func f() { g(); } func g() { f(); }": api.ErrRing, "func f() { f(); } thread { print 1; }": api.ErrRing, "func f() { } func g() { f(); h(); } func h() { k(); } func k() { g(); } thread { f(); }": api.ErrRing, "func f() { atomic { f(); } } thread { f(); }": api.ErrRing,
	} {
		p := parsed(t, text)
		if place, e := types.Check(p); e != api.OK {
			t.Errorf("%s: types finds the error %d at %d", text, e, place)
		}
		if _, e := effect.Check(p); e != want {
			t.Errorf("%s: effect finds the error %d, not %d", text, e, want)
		}
		testRefused(t, text, p, api.ErrArg)
	}
}

// TestTreesThatMayNotBe holds ErrArg of trees of which there is no text. (P11.1, R1)
func TestTreesThatMayNotBe(t *testing.T) {
	one := numeral(1)
	tell := api.Stmt{Kind: api.StPrint, X: one}
	deep := one
	for range 1000 {
		deep = of(api.ExNeg, deep)
	}
	nested := []api.Stmt{tell}
	for range 1000 {
		nested = []api.Stmt{{Kind: api.StIf, X: one, Body: nested}}
	}
	// One that is a part of itself.
	ring := []api.Stmt{{Kind: api.StWhile, X: one}}
	ring[0].Body = ring
	round := []api.Expr{of(api.ExNot)}
	round[0].Args = round
	for what, list := range map[string][]api.Stmt{
		"no statement": {{}}, "a print of nothing": {{Kind: api.StPrint}}, "a statement of no kind": {{Kind: api.StCall + 1}}, "one kind more": {{Kind: 255, X: one}}, "a loop of nothing": {{Kind: api.StWhile}}, "a choice of nothing": {{Kind: api.StIf}}, "a set of nothing": {{Kind: api.StSet}}, "a set of a number": {{Kind: api.StSet, X: one, Y: one}}, "a call of nothing": {{Kind: api.StCall}}, "a call of a number": {{Kind: api.StCall, X: one}},
		"a print with a list": {{Kind: api.StPrint, X: one, Body: []api.Stmt{tell}}}, "a print with a name": {{Kind: api.StPrint, X: one, Name: "a"}}, "a block with a number": {{Kind: api.StAtomic, X: one}}, "a loop with another list": {{Kind: api.StWhile, X: one, Else: []api.Stmt{tell}}}, "a variable of no type": {{Kind: api.StVar, Name: "a"}}, "a variable of no name": {{Kind: api.StVar, Type: api.Type{Kind: api.TyInt}}}, "a variable of a great array": {{Kind: api.StVar, Name: "a", Type: api.Type{Kind: api.TyArray, N: api.MaxArray + 1}}},
		"an expression of no kind": {{Kind: api.StPrint, X: of(api.ExOr+1, one, one)}}, "a sum of one": {{Kind: api.StPrint, X: of(api.ExAdd, one)}}, "a sum of none": {{Kind: api.StPrint, X: of(api.ExAdd)}}, "a sum of three": {{Kind: api.StPrint, X: of(api.ExAdd, one, one, one)}}, "an and of one": {{Kind: api.StPrint, X: of(api.ExAnd, one)}}, "a part that is none": {{Kind: api.StPrint, X: of(api.ExNot, api.Expr{})}}, "a name that is none": {{Kind: api.StPrint, X: api.Expr{Kind: api.ExName}}}, "a number with parts": {{Kind: api.StPrint, X: of(api.ExNumber, one)}},
		"an expression that is too deep": {{Kind: api.StPrint, X: deep}}, "a list that is too deep": nested, "too many statements": slices.Repeat([]api.Stmt{tell}, api.MaxItems), "a list within itself": ring, "an expression within itself": {{Kind: api.StPrint, X: round[0]}},
	} {
		testRefused(t, what, api.Program{Threads: [][]api.Stmt{list}}, api.ErrArg)
		testRefused(t, what, api.Program{Threads: [][]api.Stmt{{tell}, list}}, api.ErrArg)
		testRefused(t, what, api.Program{Funcs: []api.Func{{Name: "f", Body: list}}, Threads: [][]api.Stmt{{tell}}}, api.ErrArg)
	}
	testRefused(t, "too many threads", api.Program{Threads: make([][]api.Stmt, api.MaxThreads+1)}, api.ErrArg)
	testRefused(t, "too many functions", api.Program{Funcs: make([]api.Func, api.MaxFuncs+1)}, api.ErrArg)
	testRefused(t, "too many records", api.Program{Records: make([]api.Record, api.MaxRecords+1)}, api.ErrArg)
	testRefused(t, "too many shared variables", api.Program{Shared: make([]api.Field, api.MaxItems+1)}, api.ErrArg)
	testRefused(t, "a record without fields", api.Program{Records: []api.Record{{Name: "r"}}}, api.ErrArg)
	testRefused(t, "a record whose name is none", api.Program{Records: []api.Record{{Name: "R", Fields: []api.Field{{Name: "x", Type: api.Type{Kind: api.TyInt}}}}}}, api.ErrArg)
	testRefused(t, "an array that is too long", api.Program{Shared: []api.Field{{Name: "a", Type: api.Type{Kind: api.TyArray, N: api.MaxArray + 1}}}}, api.ErrArg)
}

// TestErrArgIsFirst holds ErrArg of what is not right and too great as well. (R2)
func TestErrArgIsFirst(t *testing.T) {
	for _, wrong := range []string{"thread { print x; }", "thread { return; }", "shared n int; thread { n = 1; }", "func f() { f(); }", "func g() int { print 1; } thread { f0(); }"} {
		testRefused(t, wrong, parsed(t, doubling(31)+"thread { f0(); } "+wrong), api.ErrArg)
		testRefused(t, wrong, parsed(t, wrong+" thread { f0(); } "+doubling(31)), api.ErrArg)
	}
	// What show finds may be ErrLimit: here it is an argument that may not be.
	deep := numeral(1)
	for range api.MaxNest {
		deep = of(api.ExNeg, deep)
	}
	p := printing(deep)
	if e := show.Check(p); e != api.ErrLimit {
		t.Errorf("show finds the error %d", e)
	}
	testRefused(t, "a tree that is too deep", p, api.ErrArg)
	testRefused(t, "a tree that is too great", read(t, doubling(32)+"thread { f0(); }"), api.ErrLimit)
}
