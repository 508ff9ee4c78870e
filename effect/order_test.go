package effect_test

import (
	"testing"

	"turnstile/api"
)

// TestWhichErrorComesFirst holds ErrArg ahead of ErrRing ahead of ErrEffect, wherever their places lie.
func TestWhichErrorComesFirst(t *testing.T) {
	testEach(t, api.ErrArg,
		"func f() { f(); } thread { print w; }", "func f() int { print 1; } thread { return 1; }", "func f() { f(); } func f() { }", "shared s int; thread { s = 1; } thread { print nil; }", "shared s int; thread { s = 1; return; } record r { x w; }",
		"thread { return 1; }", "func f() { atomic { return 1; } }", "func f() int { atomic { return; } }", "func f() int { return f(1); }",
		// A shared variable's name is no local's.
		"shared n int; thread { var n int; print n; }", "shared n int; func f(n int) { print n; }", "shared n int; func f() { atomic { } var n int; n = 1; }", "shared f int; func f() { f(); }",
	)
	testEach(t, api.ErrRing,
		"shared s int; thread { s = 1; return; } func g() int { print 1; return 1; } #func f() { f(); }", "func f() { atomic { atomic { return; } } } #func g() int { print 1; g(); }", "#func f() int { print f(); return 1; }", "shared s int; #func f() { s = 1; atomic { f(); } }",
		"shared s int; func a() { s = 1; atomic { return; } } func b() { atomic { c(); } } #func c() { a(); c(); }", "func f() { atomic { print 1; return; } } #func g() { h(); } func h() { g(); } thread { return; }",
	)
	testEach(t, api.ErrEffect, "func f() { } #func g() int { print 1; f(); return 1; }")
}

// TestWhichPlaceIsTold holds the first place by its number, of several that are wrong.
func TestWhichPlaceIsTold(t *testing.T) {
	for _, r := range []struct {
		text  string
		place int
	}{
		// Functions ahead of threads, whatever order they have in the text; records and shared variables are places too.
		{"thread { return; } func f() int { print 1; return 1; }", 0},
		{"thread { return; } shared s int; func f() int { print 1; return 1; } record r { x int; }", 2},
		{"thread { return; } func f() { atomic { return; } }", 2},
		{"thread { print 1; return; } thread { return; } func f() { print 1; } func g() { }", 5},
		{"record r { x int; y int; } record q { x int; } shared s int; shared z r; func f(a int, b int) int { return 1; } thread { } thread { print 1; s = 1; return; }", 9},
		// A function ahead of its statements, and these ahead of the next function.
		{"func f() int { print 1; atomic { atomic { } } }", 0},
		{"func f() { print 1; atomic { print 2; atomic { } } } func g() int { print 1; }", 4},
		{"func g() int { print 1; } func f() { print 1; atomic { print 2; atomic { } } }", 0},
		{"func f() { atomic { print 1; } } func g() { } func h() int { print 1; }", 4},
		// Body ahead of Else, both ahead of the next statement, an atomic block ahead of what stands in it.
		{"thread { if 1 { print 1; return; } else { return; } return; }", 3},
		{"thread { if 1 { print 1; print 2; } else { print 3; return; } return; }", 5},
		{"thread { if 1 { print 1; print 2; } else { print 3; print 4; } return; }", 6},
		{"thread { while 1 { while 2 { print 1; } atomic { } print 2; return; } return; }", 6},
		{"thread { atomic { atomic { return; } return; } return; }", 2},
		{"thread { atomic { if 1 { print 1; } else { return; } atomic { } } }", 4},
		{"shared s int; thread { while s { return; } return; }", 2},
		{"shared s int; thread { while 1 { return; } print s; }", 3},
		{"shared s int; thread { print 1; if s { s = 1; } s = 1; }", 3},
		{"shared s int; func f() { if 1 { atomic { } } else { s = 1; } }", 3},
		{"shared s int; func f() { if 1 { s = 1; } else { atomic { atomic { } } } }", 4},
		{"shared s int; func f() { s = 1; atomic { s = 2; } }", 3},
		{"shared s int; thread { atomic { s = 1; } } thread { print 1; atomic { s = 1; } atomic { } s = 1; s = 2; } thread { s = 1; }", 9},
		{"thread { } thread { } thread { print 1; } thread { return; }", 5},
	} {
		p, _ := read(t, r.text)
		testTree(t, r.text, p, r.place, api.ErrEffect)
	}
}

// TestTreesThatMayNotBe holds that whatever show or types refuse is ErrArg, place 0.
func TestTreesThatMayNotBe(t *testing.T) {
	number := api.Expr{Kind: api.ExNumber, N: 1}
	deep := api.Expr{Kind: api.ExNumber}
	for range 16 {
		deep = api.Expr{Kind: api.ExNot, Args: []api.Expr{deep}}
	}
	var list, long []api.Stmt
	for range 17 {
		list = []api.Stmt{{Kind: api.StAtomic, Body: list}}
	}
	for range 1025 {
		long = append(long, api.Stmt{Kind: api.StReturn})
	}
	edits := []func(p *api.Program){
		func(p *api.Program) { p.Records[0].Name = "int" },
		func(p *api.Program) { p.Records[0].Fields = nil },
		func(p *api.Program) { p.Records = append(p.Records, p.Records[0]) },
		func(p *api.Program) { p.Shared[0].Type = api.Type{Kind: api.TyArray, N: 65} },
		func(p *api.Program) { p.Shared[0].Type = api.Type{Kind: api.TyRef, Name: "w"} },
		func(p *api.Program) { p.Shared[0].Name = "f" },
		func(p *api.Program) { p.Shared = append(p.Shared, make([]api.Field, 1024)...) },
		func(p *api.Program) { p.Funcs = append(p.Funcs, make([]api.Func, 33)...) },
		func(p *api.Program) { p.Funcs[0].Result = api.Type{Kind: api.TyArray + 1} },
		func(p *api.Program) { p.Funcs[0].Params = append(p.Funcs[0].Params, p.Funcs[0].Params[0]) },
		func(p *api.Program) { p.Threads = make([][]api.Stmt, 5) },
		func(p *api.Program) { p.Threads[1][0].Kind = api.StNone },
		func(p *api.Program) { p.Threads[1][0].Kind = 255 },
		func(p *api.Program) { p.Threads[1][0].X = api.Expr{} },
		func(p *api.Program) { p.Threads[1][0].X = deep },
		func(p *api.Program) { p.Threads[1][0].Y = number },
		func(p *api.Program) { p.Threads[1][0].Body = p.Threads[0] },
		func(p *api.Program) { p.Threads[1] = list },
		func(p *api.Program) { p.Threads[1] = long },
		func(p *api.Program) { p.Threads[1][0].X = api.Expr{Kind: 255} },
		func(p *api.Program) { p.Threads[1][0].X = api.Expr{Kind: api.ExField, Name: "x"} },
		func(p *api.Program) { p.Threads[1][0].X = api.Expr{Kind: api.ExCall, Name: "g"} },
		func(p *api.Program) { p.Threads[1][0].X = api.Expr{Kind: api.ExCall, Name: "f"} },
		func(p *api.Program) { p.Threads[1][0].X = api.Expr{Kind: api.ExNil} },
		func(p *api.Program) { p.Threads[0][0].X.Name = "w" },
	}
	for n, edit := range edits {
		for _, text := range []string{
			"record r { x int; } shared s int; func f(a int) { } thread { atomic { s = 1; } } thread { print 1; }",
			// A ring, and things that stand where they may not, ahead of it and behind.
			"record r { x int; } shared s int; func f(a int) { s = 1; atomic { f(1); } } thread { s = 1; return; } thread { print 1; s = 2; return; }",
		} {
			p, _ := read(t, text)
			edit(&p)
			testTree(t, n, p, 0, api.ErrArg)
		}
	}
	testTree(t, "statements of no kind", api.Program{Threads: [][]api.Stmt{make([]api.Stmt, 100000)}}, 0, api.ErrArg)
}

// TestDeepTrees holds that the calls end at trees that are as deep as they may be handed in.
func TestDeepTrees(t *testing.T) {
	const deep = 1<<16 - 8
	var list []api.Stmt
	x := api.Expr{Kind: api.ExNumber, N: 1}
	for range deep {
		list = []api.Stmt{{Kind: api.StAtomic, Body: list}}
		x = api.Expr{Kind: api.ExNot, Args: []api.Expr{x}}
	}
	testTree(t, "lists", api.Program{Threads: [][]api.Stmt{list}}, 0, api.ErrArg)
	testTree(t, "lists of a function", api.Program{Funcs: []api.Func{{Name: "f", Body: list}}}, 0, api.ErrArg)
	testTree(t, "expressions", api.Program{Threads: [][]api.Stmt{{{Kind: api.StPrint, X: x}}}}, 0, api.ErrArg)
}
