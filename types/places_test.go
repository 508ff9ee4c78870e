package types_test

import (
	"testing"

	"turnstile/api"
	"turnstile/parse"
	"turnstile/types"
)

func testPlaces(t *testing.T, what any, p api.Program, want int) {
	t.Helper()
	if n := types.Places(p); n != want {
		t.Errorf("%v: %d places, not %d", what, n, want)
	}
}

func TestPlaces(t *testing.T) {
	rows := []struct {
		text string
		want int
	}{
		{"", 0}, {"thread { }", 1}, {"thread { } thread { }", 2}, {"thread { print 1; }", 2},
		{"record r { x int; y int; z int; }", 1}, {"record r { x int; } record q { x int; }", 2}, {"shared a int; shared b int; shared c int;", 3},
		{"func f(a int, b int) int { }", 1}, {"func f() { return; return; }", 3}, {"func f() { return; } func g() { return; return; }", 5},
		{"shared n int; thread { n = 1; } record r { x int; }", 4},
		{"thread { if 1 { } }", 2}, {"thread { if 1 { } else { } }", 2}, {"thread { if 1 { print 1; } else { print 1; print 1; } }", 5}, {"thread { if 1 { } else { print 1; } print 1; }", 4},
		{"thread { while 1 { print 1; while 1 { print 1; } } }", 5}, {"thread { atomic { atomic { } atomic { atomic { } } } }", 5},
		{"thread { f(a(b(c)), 1 + 2); var x int = 5; x.y[1] = 7; print 1; return 1; }", 6},
		{"record r { x int; } shared a int; func f(a int) { if 1 { print 1; } } thread { while 1 { print 1; } } thread { print 1; }", 10},
		// Places are counted, whatever types has to say of them.
		{"record r { x w; } record r { x int; } shared r w; func r(r w, r w) w { print nil; } thread { print w; atomic { w(); } }", 9},
	}
	for _, r := range rows {
		p, lines, _, e := parse.Program(r.text)
		if e != api.OK || len(lines) != r.want {
			t.Fatalf("%s: the error %d, %d lines", r.text, e, len(lines))
		}
		testPlaces(t, r.text, p, r.want)
	}
	p := whole(t)
	testPlaces(t, "the whole program", p, len(tables{p}.spots()))
	testPlaces(t, "the whole program", p, 65)
}

// TestPlacesOfAnyTree holds trees that may not be: lists where none may stand, kinds that are none, more of all than there may be.
func TestPlacesOfAnyTree(t *testing.T) {
	many := make([]api.Stmt, 3)
	for k := range api.StmtKind(255) {
		s := api.Stmt{Kind: k, Body: many}
		testPlaces(t, k, api.Program{Threads: [][]api.Stmt{{s}}}, 5)
		s.Else = []api.Stmt{{Kind: k, Else: many}, {}}
		testPlaces(t, k, api.Program{Threads: [][]api.Stmt{{s, {}}}}, 11)
		testPlaces(t, k, api.Program{Funcs: []api.Func{{Body: []api.Stmt{s}}}}, 10)
	}
	testPlaces(t, "records", api.Program{Records: make([]api.Record, 100)}, 100)
	testPlaces(t, "shared variables", api.Program{Shared: make([]api.Field, 3000)}, 3000)
	testPlaces(t, "functions", api.Program{Funcs: make([]api.Func, 100)}, 100)
	testPlaces(t, "threads", api.Program{Threads: make([][]api.Stmt, 100)}, 100)
	testPlaces(t, "statements", api.Program{Threads: [][]api.Stmt{nil, make([]api.Stmt, 100000)}}, 100002)
	testPlaces(t, "a record of many fields", api.Program{Records: []api.Record{{Fields: make([]api.Field, 100)}}}, 1)
	testPlaces(t, "a function of many parameters", api.Program{Funcs: []api.Func{{Params: make([]api.Field, 100)}}}, 1)
}

// TestDeepTrees holds that both calls end at trees that are as deep as they may be handed in.
func TestDeepTrees(t *testing.T) {
	const deep = 1<<16 - 8
	var list, other []api.Stmt
	x := api.Expr{Kind: api.ExNumber, N: 1}
	for range deep {
		list = []api.Stmt{{Kind: api.StAtomic, Body: list}}
		other = []api.Stmt{{Kind: api.StIf, X: api.Expr{Kind: api.ExNumber, N: 1}, Else: other}}
		x = api.Expr{Kind: api.ExNot, Args: []api.Expr{x}}
	}
	p := api.Program{Funcs: []api.Func{{Name: "f", Body: other}}, Threads: [][]api.Stmt{list, {{Kind: api.StPrint, X: x}}}}
	testPlaces(t, "a deep tree", p, 2*deep+4)
	testTree(t, "a deep tree", p, 0, api.ErrArg)
	testTree(t, "a deep list", api.Program{Threads: [][]api.Stmt{list}}, 0, api.ErrArg)
	testTree(t, "a deep expression", api.Program{Threads: [][]api.Stmt{{{Kind: api.StPrint, X: x}}}}, 0, api.ErrArg)
}

// TestFullPrograms holds programs with as much of all as there may be.
func TestFullPrograms(t *testing.T) {
	p := api.Program{Threads: make([][]api.Stmt, 4)}
	whole := api.Type{Kind: api.TyInt}
	letters := "abcdefghijklmnopqrstuvwxyz"
	for i := range 16 {
		r := api.Record{Name: "r_" + letters[i:i+1]}
		for j := range 16 {
			r.Fields = append(r.Fields, api.Field{Name: letters[j : j+1], Type: api.Type{Kind: api.TyRef, Name: r.Name}})
		}
		p.Records = append(p.Records, r)
	}
	for i := range 676 {
		p.Shared = append(p.Shared, api.Field{Name: "s_" + letters[i/26:i/26+1] + letters[i%26:i%26+1], Type: whole})
	}
	for i := range 32 {
		f := api.Func{Name: "f_" + letters[i/26:i/26+1] + letters[i%26:i%26+1], Result: whole}
		for j := range 16 {
			f.Params = append(f.Params, api.Field{Name: letters[j : j+1], Type: whole})
		}
		p.Funcs = append(p.Funcs, f)
	}
	for i := range 511 {
		v := api.Stmt{Kind: api.StVar, Name: "v_" + letters[i/26:i/26+1] + letters[i%26:i%26+1], Type: whole, X: api.Expr{Kind: api.ExNumber}}
		if i > 0 {
			v.X = api.Expr{Kind: api.ExName, Name: "v_aa"}
		}
		p.Threads[3] = append(p.Threads[3], v)
	}
	testTree(t, "a full program", p, 0, api.OK)
	n := types.Places(p)
	testPlaces(t, "a full program", p, 16+676+32+4+511)
	p.Threads[3] = append(p.Threads[3], api.Stmt{Kind: api.StPrint, X: api.Expr{Kind: api.ExName, Name: "v_zz"}})
	testTree(t, "a full program", p, n, api.ErrGone)
	p.Threads[3][511].X.Name = "v_aa"
	testTree(t, "a full program", p, 0, api.OK)
	p.Threads[3] = append(p.Threads[3], api.Stmt{Kind: api.StReturn})
	testTree(t, "one statement more than there may be", p, 0, api.ErrArg)
}
