package shape_test

import (
	"testing"

	"turnstile/api"
	"turnstile/effect"
	"turnstile/show"
	"turnstile/types"
)

// someAsks are calls of each kind: such as name what there is, such as name what is gone, and types whose form is wrong.
func someAsks() []ask {
	return []ask{
		words(), shared("s"), shared("w"), shared("r"), shared(""),
		size(ref("r")), size(array(4, "")), size(array(4, "r")), size(ref("w")), size(array(4, "w")), size(number()), size(api.Type{}), size(array(65, "")), size(array(0, "w")), size(ref("")), size(api.Type{Kind: 9}),
		offset("r", "x"), offset("r", "y"), offset("r", "w"), offset("w", "x"), offset("", ""),
	}
}

// testRefused holds that all calls answer ErrArg of a program that types.Check refuses, by that error.
func testRefused(t *testing.T, what any, p api.Program, by api.Errno) {
	t.Helper()
	if _, e := types.Check(p); e != by {
		t.Errorf("%v: types finds the error %d, not %d", what, e, by)
	}
	for _, a := range someAsks() {
		a.test(t, what, p, no(api.ErrArg))
	}
}

const fits = "record r { x int; y r; } shared s int; "

// TestFaultsOfTypes holds ErrArg of each fault at each place, ahead of whatever is asked.
func TestFaultsOfTypes(t *testing.T) {
	for by, texts := range map[api.Errno][]string{
		api.ErrTwice: {
			"record r { x int; }", "record q { x int; x int; }", "shared r int;", "shared s int;", "func r() { }", "func s() { }", "func f() { } func f() { }", "func f(a int, a int) { }", "func f(s int) { }",
			"func f() { var s int; }", "func f(a int) { var a int; }", "thread { var a int; var a int; }", "thread { } thread { } thread { } thread { if 1 { } else { while 0 { var s int; } } }",
		},
		api.ErrGone: {
			"record q { x w; }", "record q { x int; y [2]w; }", "shared a w;", "shared a [2]w;", "func f(a w) { }", "func f() w { }", "func f() { var a w; }", "thread { var a [2]w; }", "thread { print a; }", "thread { atomic { s = new w; } }",
			"thread { f(); }", "thread { print s + w; }", "func f() { a = 1; }", "thread { var a r = nil; print a.w; }", "thread { } thread { } thread { } thread { if 1 { } else { while 0 { print w; } } }",
		},
		api.ErrType: {
			"thread { print nil; }", "func f() { print nil; }", "func f() int { return; }", "func f() { return 1; }", "thread { return 1; }", "thread { var a int = nil; }", "thread { s = new r; }", "func f(a int) { } thread { f(); }", "func f() { } thread { print f(); }",
			"thread { if new r { } }", "thread { while nil { } }", "thread { print s.x; }", "thread { print 1 + nil; }", "thread { } thread { } thread { } thread { if 1 { } else { while 0 { print nil; } } }",
		},
	} {
		for _, text := range texts {
			testRefused(t, text, read(t, fits+text), by)
		}
	}
	testRefused(t, "no record", read(t, "shared s r;"), api.ErrGone)
	testRefused(t, "a record's own field is gone", read(t, "record r { x int; y w; }"), api.ErrGone)
}

// TestTreesThatMayNotBe holds ErrArg of trees of which there is no text.
func TestTreesThatMayNotBe(t *testing.T) {
	one := []api.Field{{Name: "x", Type: number()}}
	many := make([]api.Stmt, api.MaxItems+1)
	for i := range many {
		many[i] = api.Stmt{Kind: api.StAtomic}
	}
	deep := []api.Stmt(nil)
	for range 10000 {
		deep = []api.Stmt{{Kind: api.StAtomic, Body: deep}}
	}
	for what, change := range map[string]func(p *api.Program){
		"a record without fields":       func(p *api.Program) { p.Records = append(p.Records, api.Record{Name: "q"}) },
		"the record without its fields": func(p *api.Program) { p.Records[0].Fields = nil },
		"a record without a name":       func(p *api.Program) { p.Records = append(p.Records, api.Record{Fields: one}) },
		"a record that is a word":       func(p *api.Program) { p.Records = append(p.Records, api.Record{Name: "int", Fields: one}) },
		"a field without a type":        func(p *api.Program) { p.Records[0].Fields[1].Type = api.Type{} },
		"a field that is too long":      func(p *api.Program) { p.Records[0].Fields[1].Type = array(65, "r") },
		"a shared variable of nothing":  func(p *api.Program) { p.Shared[0].Type = api.Type{} },
		"a shared variable of no name":  func(p *api.Program) { p.Shared = append(p.Shared, api.Field{Type: number()}) },
		"a shared variable too long":    func(p *api.Program) { p.Shared[0].Type = array(65, "") },
		"a function of no name":         func(p *api.Program) { p.Funcs = append(p.Funcs, api.Func{}) },
		"too many functions":            func(p *api.Program) { p.Funcs = make([]api.Func, api.MaxFuncs+1) },
		"too many threads":              func(p *api.Program) { p.Threads = make([][]api.Stmt, api.MaxThreads+1) },
		"a statement of no kind":        func(p *api.Program) { p.Threads = [][]api.Stmt{{{}}} },
		"a print of nothing":            func(p *api.Program) { p.Threads = [][]api.Stmt{{{Kind: api.StPrint}}} },
		"too many statements":           func(p *api.Program) { p.Threads = [][]api.Stmt{many} },
		"a deep list":                   func(p *api.Program) { p.Threads = [][]api.Stmt{deep} },
		"a deep list of a function":     func(p *api.Program) { p.Funcs = []api.Func{{Name: "f", Body: deep}} },
	} {
		p := read(t, fits)
		change(&p)
		testRefused(t, what, p, api.ErrArg)
		if show.Check(p) == api.OK {
			t.Errorf("%s: show finds nothing", what)
		}
	}
}

// TestFaultsOfEffect holds that what effect finds makes no difference: types takes these programs.
func TestFaultsOfEffect(t *testing.T) {
	for _, text := range []string{"thread { s = 1; }", "func f() { f(); }", "func f() { atomic { } } thread { atomic { f(); } }", "func f() int { print 1; }", "thread { return; }"} {
		p := readTaken(t, fits+text)
		if _, e := effect.Check(p); e == api.OK {
			t.Errorf("%s: effect finds nothing", text)
		}
		for _, a := range someAsks() {
			a.test(t, text, p, a.answers(p))
		}
	}
}
