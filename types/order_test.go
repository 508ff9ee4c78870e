package types_test

import (
	"testing"

	"turnstile/api"
)

// TestOrderInOnePlace holds which of two faults of one place is told.
func TestOrderInOnePlace(t *testing.T) {
	testRows(t, []row{
		{"record r { x int; } #record r { x w; }", api.ErrTwice},
		{"#record r { x w; x int; }", api.ErrGone},
		{"#record r { x int; x w; }", api.ErrTwice},
		{"#record r { x int; y w; x int; }", api.ErrGone},
		{"#record r { x int; x int; y w; }", api.ErrTwice},
		{"shared a int; #shared a w;", api.ErrTwice},
		{"record r { x int; } #shared r w;", api.ErrTwice},
		{"func f() { } #func f(a w) w { }", api.ErrTwice},
		{"record f { x int; } #func f(a w) { }", api.ErrTwice},
		{"shared f int; #func f() w { }", api.ErrTwice},
		{"#func f(a w, a int) { }", api.ErrGone},
		{"#func f(a int, a w) { }", api.ErrTwice},
		{"#func f(a int, b w, a int) { }", api.ErrGone},
		{"#func f(a int, a int, b w) w { }", api.ErrTwice},
		{"shared a int; #func f(a w) { }", api.ErrTwice},
		{"shared a int; #func f(b w, a int) { }", api.ErrGone},
		{"shared a int; #func f(b int, a int) w { }", api.ErrTwice},
	})
	testStmts(t, things, []row{
		{"var x int; #var x w;", api.ErrTwice},
		{"var x int; #var x int = nil;", api.ErrTwice},
		{"var x int; #var x int = y;", api.ErrTwice},
		{"#var i w;", api.ErrTwice},
		{"#var x w = 1 + nil;", api.ErrGone},
		{"#var x w = none();", api.ErrGone},
		{"#var x w = 1;", api.ErrGone},
		{"#var x r = y;", api.ErrGone},
		{"#var x r = p.y + 1;", api.ErrGone},
		{"#var x r = 1 + p;", api.ErrType},

		{"#x = 1 + nil;", api.ErrGone},
		{"#x = none();", api.ErrGone},
		{"#i.x = y;", api.ErrType},
		{"#p.y = 1 + nil;", api.ErrGone},
		{"#e[nil] = y;", api.ErrType},
		{"#p[0] = y;", api.ErrType},
		{"#none().x = y;", api.ErrType},
		{"#i = y;", api.ErrGone},
		{"#p = y + nil;", api.ErrGone},
		{"#p = nil + y;", api.ErrGone},

		{"#print x;", api.ErrGone},
		{"#print new w;", api.ErrGone},
		{"#if new w { print 1 + nil; }", api.ErrGone},
		{"#while p.y { print 1 + nil; }", api.ErrGone},
		{"#return new w;", api.ErrGone},
	})
}

// TestOrderInExpressions holds that Args come first, from the left, and only then what holds them.
func TestOrderInExpressions(t *testing.T) {
	testStmts(t, things, []row{
		{"#print x + (1 + nil);", api.ErrGone},
		{"#print (1 + nil) + x;", api.ErrType},
		{"#print nil + x;", api.ErrGone},
		{"#print x + nil;", api.ErrGone},
		{"#print none() + x;", api.ErrType},
		{"#print x + none();", api.ErrGone},
		{"#print x == (1 == nil);", api.ErrGone},
		{"#print (1 == nil) == x;", api.ErrType},
		{"#print 1 == x;", api.ErrGone},
		{"#print none() != x;", api.ErrType},
		{"#print -x;", api.ErrGone},
		{"#print -(nil + x);", api.ErrGone},
		{"#print !p.y;", api.ErrGone},
		{"#print !(1 + p.r);", api.ErrType},

		{"#print x.x;", api.ErrGone},
		{"#print (1 + nil).y;", api.ErrType},
		{"#print (p.y).x;", api.ErrGone},
		{"#print nil.y;", api.ErrType},
		{"#print e.y;", api.ErrType},
		{"#print (new w).y;", api.ErrGone},

		{"#print x[nil];", api.ErrGone},
		{"#print e[x];", api.ErrGone},
		{"#print (1 + nil)[x];", api.ErrType},
		{"#print x[1 + nil];", api.ErrGone},
		{"#print 1[x];", api.ErrGone},
		{"#print nil[p.y];", api.ErrGone},
		{"#print none()[x];", api.ErrType},
		{"#print e[none() + x];", api.ErrType},

		{"#w(1 + nil);", api.ErrType},
		{"#w(none());", api.ErrType},
		{"#w(1 + nil, x);", api.ErrType},
		{"#w(x, 1 + nil);", api.ErrGone},
		{"#none(x);", api.ErrGone},
		{"#void(1, x);", api.ErrGone},
		{"#void(1, nil + 1);", api.ErrType},
		{"#take(nil, x, nil);", api.ErrGone},
		{"#take(none(), x);", api.ErrType},
		{"#take(x, none());", api.ErrGone},
		{"#print both(1, w(none()));", api.ErrType},
		{"#print both(w(1), none());", api.ErrGone},
		{"#print none() + w();", api.ErrType},
		{"#print w() + none();", api.ErrGone},
	})
}

// TestWhichPlaceIsTold holds which of two places is told that have a fault, and its number.
func TestWhichPlaceIsTold(t *testing.T) {
	rows := []struct {
		text  string
		place int
		want  api.Errno
	}{
		// Things by their sorts, whatever order they have in the text.
		{"thread { print nil; } func f(a w) { } shared a w; record r { x int; x int; }", 0, api.ErrTwice},
		{"thread { print nil; } func f(a int, a int) { } shared a w; record r { x int; }", 1, api.ErrGone},
		{"thread { print nil; } func f(a int, a int) { } shared a int; record r { x int; }", 2, api.ErrTwice},
		{"thread { print nil; } func f(a int) { print w; } shared a int; record r { x int; }", 2, api.ErrTwice},
		{"thread { print nil; } func f(b int) { print w; } shared a int; record r { x int; }", 3, api.ErrGone},
		{"thread { print nil; } func f(b int) { print b; } shared a int; record r { x int; }", 5, api.ErrType},
		{"record r { x int; } record q { x w; } record r { x int; }", 1, api.ErrGone},
		{"record r { x int; } record r { x int; } record q { x w; }", 1, api.ErrTwice},
		{"shared a int; shared b w; shared a int;", 1, api.ErrGone},
		// Of a function its statements ahead of the next one, of a statement its Body and then its Else ahead of the next one.
		{"func f() { print w; } func f() { }", 1, api.ErrGone},
		{"func f() { print 1; } func f() { print w; }", 2, api.ErrTwice},
		{"thread { } thread { print 1; if 1 { print 2; print 3; } else { print 4; } print w; print nil; }", 7, api.ErrGone},
		{"thread { } thread { print 1; if 1 { print 2; print 3; } else { print nil; } print w; }", 6, api.ErrType},
		{"thread { } thread { print 1; if 1 { print 2; print w; } else { print nil; } print nil; }", 5, api.ErrGone},
		{"thread { } thread { print 1; if 1 { print 2; print 3; } else { print w; } }", 6, api.ErrGone},
		{"thread { } thread { print 1; if nil { print 2; print w; } else { print w; } }", 3, api.ErrType},
		{"thread { while nil { print w; } print w; }", 1, api.ErrType},
		{"thread { while 1 { while 2 { print 1; } atomic { } print w; } }", 5, api.ErrGone},
		{"thread { atomic { if 1 { print 1; } else { while 1 { print 1; } if w { } } } }", 6, api.ErrGone},
		{"func f() { while 1 { print 1; } } func g() { if 1 { } else { print w; } } thread { print nil; }", 5, api.ErrGone},
		{"thread { if 1 { print 1; } print 2; } thread { } thread { print w; } thread { print nil; }", 6, api.ErrGone},
		{"record r { x int; y int; } shared a int; shared b int; func f(x int, y int) int { print 1; return 1; } thread { print 1; print nil; }", 8, api.ErrType},
	}
	for _, r := range rows {
		p, _ := read(t, r.text)
		testTree(t, r.text, p, r.place, r.want)
	}
}

// TestWhatShowRefuses holds that a tree that may not be is refused ahead of all else, whatever its error is.
func TestWhatShowRefuses(t *testing.T) {
	number := api.Expr{Kind: api.ExNumber, N: 1}
	deep := api.Expr{Kind: api.ExName, Name: "w"}
	for range 16 {
		deep = api.Expr{Kind: api.ExNot, Args: []api.Expr{deep}}
	}
	var list []api.Stmt
	for range 17 {
		list = []api.Stmt{{Kind: api.StAtomic, Body: list}}
	}
	edits := []func(p *api.Program){
		func(p *api.Program) { p.Records[1].Name = "int" },
		func(p *api.Program) { p.Records[0].Fields = nil },
		func(p *api.Program) { p.Records[0].Fields[0].Type = api.Type{} },
		func(p *api.Program) { p.Shared[0].Name = "" },
		func(p *api.Program) { p.Shared[0].Type.Kind = api.TyArray + 1 },
		func(p *api.Program) { p.Shared[0].Type = api.Type{Kind: api.TyArray, N: 65} },
		func(p *api.Program) { p.Shared = append(p.Shared, make([]api.Field, 1024)...) },
		func(p *api.Program) { p.Records = append(p.Records, make([]api.Record, 17)...) },
		func(p *api.Program) { p.Funcs = append(p.Funcs, make([]api.Func, 33)...) },
		func(p *api.Program) { p.Funcs[0].Result = api.Type{Kind: api.TyInt, N: 1} },
		func(p *api.Program) { p.Funcs[0].Result = api.Type{Kind: api.TyArray + 1} },
		func(p *api.Program) { p.Funcs[0].Params = append(p.Funcs[0].Params, api.Field{Name: "b"}) },
		func(p *api.Program) { p.Threads = make([][]api.Stmt, 5) },
		func(p *api.Program) { p.Threads[1][0].Kind = api.StNone },
		func(p *api.Program) { p.Threads[1][0].Kind = api.StCall + 1 },
		func(p *api.Program) { p.Threads[1][0].X = api.Expr{} },
		func(p *api.Program) { p.Threads[1][0].X = deep },
		func(p *api.Program) { p.Threads[1][0].Body = p.Threads[0] },
		func(p *api.Program) { p.Threads[1] = list },
		func(p *api.Program) { p.Threads[1] = make([]api.Stmt, 1025) },
		func(p *api.Program) { p.Threads[1][0].X = api.Expr{Kind: api.ExField, Name: "x"} },
		func(p *api.Program) { p.Threads[1][0].X = api.Expr{Kind: api.ExOr + 1} },
		func(p *api.Program) { p.Threads[1][0].X = api.Expr{Kind: api.ExIndex, Args: []api.Expr{number}} },
		func(p *api.Program) { p.Threads[1][0].X = api.Expr{Kind: api.ExNew, Type: api.Type{Kind: api.TyInt}} },
		func(p *api.Program) { p.Threads[1][0].X = api.Expr{Kind: api.ExCall, Name: "f", Args: []api.Expr{{}}} },
	}
	for n, edit := range edits {
		for _, text := range []string{
			"record r { x int; } record q { x int; } shared s int; func f(a int) { } thread { s = 1; } thread { print 1; }",
			// Whatever else is wrong, ahead of it or behind.
			"record r { x w; } record r { x int; } shared r int; func f(a w) { } thread { print nil; } thread { print w; }",
		} {
			p, _ := read(t, text)
			edit(&p)
			testTree(t, n, p, 0, api.ErrArg)
		}
	}
	testTree(t, "a thread alone", api.Program{Threads: [][]api.Stmt{{{}}}}, 0, api.ErrArg)
}
