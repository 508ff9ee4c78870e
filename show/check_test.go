package show_test

import (
	"reflect"
	"strings"
	"testing"

	"turnstile/api"
	"turnstile/show"
)

func TestCheckTakesAllKinds(t *testing.T) {
	testCheck(t, "nothing", api.Program{}, api.OK)
	testCheck(t, "all", whole(), api.OK)
	testCheck(t, "an empty thread", api.Program{Threads: [][]api.Stmt{nil, {}}}, api.OK)
	testCheck(t, "an empty function", api.Program{Funcs: []api.Func{{Name: "f"}}}, api.OK)
	testCheck(t, "names that are alike", api.Program{Shared: []api.Field{{Name: "n", Type: refType}, {Name: "n", Type: intType}}}, api.OK)
	for _, x := range exprs() {
		testExpr(t, "a right expression", x, api.OK)
		testCheck(t, "with a value", thread(variable("x", intType, x)), api.OK)
		testCheck(t, "with a result", thread(back(x)), api.OK)
	}
	for _, s := range stmts() {
		testCheck(t, "a right statement", thread(s), api.OK)
		testCheck(t, "in a function", api.Program{Funcs: []api.Func{{Name: "f", Result: intType, Body: []api.Stmt{s}}}}, api.OK)
	}
}

func TestExprKindsThatAreNone(t *testing.T) {
	testExpr(t, "none", api.Expr{}, api.ErrArg)
	for k := range 256 {
		if k >= int(api.ExNumber) && k <= int(api.ExOr) {
			continue
		}
		for _, x := range exprs() {
			x.Kind = api.ExprKind(k)
			testExpr(t, "a kind that is none", x, api.ErrArg)
		}
	}
}

func TestStmtKindsThatAreNone(t *testing.T) {
	testCheck(t, "none", thread(api.Stmt{}), api.ErrArg)
	for k := range 256 {
		if k >= int(api.StVar) && k <= int(api.StCall) {
			continue
		}
		for _, s := range stmts() {
			s.Kind = api.StmtKind(k)
			testCheck(t, "a kind that is none", thread(s), api.ErrArg)
		}
	}
}

func TestExprFieldsOfOtherKinds(t *testing.T) {
	for _, x := range exprs() {
		if x.Kind != api.ExNumber {
			for _, n := range []int64{1, -1, least, greatest} {
				y := x
				y.N = n
				testExpr(t, "a number", y, api.ErrArg)
			}
		}
		if x.Name == "" {
			for _, s := range []string{"x", "A", "nil"} {
				y := x
				y.Name = s
				testExpr(t, "a name", y, api.ErrArg)
			}
		}
		if x.Kind != api.ExNew {
			for _, u := range []api.Type{intType, refType, intArray, tooGreat, {Name: "r"}, {N: 1}, {N: 65}, {Kind: 9}} {
				y := x
				y.Type = u
				testExpr(t, "a type", y, api.ErrArg)
			}
		}
	}
}

func TestArgs(t *testing.T) {
	for _, x := range exprs() {
		for n := range 5 {
			y := x
			y.Args = times(n, a)
			want := api.ErrArg
			if x.Kind == api.ExCall || n == len(x.Args) {
				want = api.OK
			}
			testExpr(t, "so many Args", y, want)
		}
		for i := range x.Args {
			y := x
			y.Args = append([]api.Expr{}, x.Args...)
			y.Args[i] = api.Expr{}
			testExpr(t, "an Arg that is none", y, api.ErrArg)
			y.Args[i] = made(tooGreat)
			testExpr(t, "an Arg that is too great", y, api.ErrLimit)
		}
	}
	if s, e := show.Expr(call("f", times(1023, a)...)); s == "" || e != api.OK {
		t.Errorf("1024 items: %d bytes and the error %d", len(s), e)
	}
	if s, e := show.Expr(call("f", times(1024, a)...)); s != "" || e != api.ErrLimit {
		t.Errorf("1025 items: %d bytes and the error %d", len(s), e)
	}
}

// notNames are texts that are no names.
var notNames = []string{
	"", "A", "aB", "_a", "1", "1a", "a b", "a ", " a", "a-b", "a.b", "\x00", "a\x00", "é", "a\n", longName + "z",
	"record", "shared", "func", "thread", "var", "if", "else", "while", "atomic", "print", "return", "new", "nil", "int",
}

func TestNames(t *testing.T) {
	test := func(s string, want api.Errno) {
		fields := []api.Field{{Name: "x", Type: intType}}
		named := []api.Field{{Name: "x", Type: intType}, {Name: s, Type: intType}}
		testCheck(t, "a record "+s, api.Program{Records: []api.Record{{Name: s, Fields: fields}}}, want)
		testCheck(t, "a field "+s, api.Program{Records: []api.Record{{Name: "r", Fields: named}}}, want)
		testCheck(t, "a shared variable "+s, api.Program{Shared: named}, want)
		testCheck(t, "a function "+s, api.Program{Funcs: []api.Func{{Name: s}}}, want)
		testCheck(t, "a parameter "+s, api.Program{Funcs: []api.Func{{Name: "f", Params: named}}}, want)
		testCheck(t, "a variable "+s, thread(variable(s, intType, a)), want)
		testExpr(t, "a name "+s, name(s), want)
		testExpr(t, "the field "+s, field(a, s), want)
		testExpr(t, "a call of "+s, call(s), want)
		testCheck(t, "called "+s, thread(called(call(s))), want)
		testExpr(t, "a new "+s, made(api.Type{Kind: api.TyRef, Name: s}), want)
		if s != "" {
			testExpr(t, "a new array of "+s, made(api.Type{Kind: api.TyArray, Name: s, N: 1}), want)
		}
	}
	for _, s := range notNames {
		test(s, api.ErrArg)
	}
	for _, s := range []string{"a", "z", "a_", "a0", "a_1b", "ints", longName} {
		test(s, api.OK)
	}
}

// types are types, each with what is wrong with its form.
var types = []struct {
	t api.Type
	e api.Errno
}{
	{intType, api.OK}, {refType, api.OK}, {intArray, api.OK}, {refArray, api.OK},
	{api.Type{Kind: api.TyRef, Name: longName}, api.OK},
	{api.Type{Kind: api.TyArray, N: 1}, api.OK}, {api.Type{Kind: api.TyArray, N: 64}, api.OK},
	{api.Type{Kind: api.TyArray, Name: longName, N: 64}, api.OK},
	{tooGreat, api.ErrLimit}, {api.Type{Kind: api.TyArray, Name: "r", N: 65}, api.ErrLimit},
	{api.Type{Kind: api.TyArray, N: int(greatest)}, api.ErrLimit},
	{api.Type{Kind: api.TyArray}, api.ErrArg}, {api.Type{Kind: api.TyArray, Name: "r"}, api.ErrArg},
	{api.Type{Kind: api.TyArray, N: -1}, api.ErrArg}, {api.Type{Kind: api.TyArray, N: int(least)}, api.ErrArg},
	{api.Type{Kind: api.TyArray, Name: "A", N: 65}, api.ErrArg}, {api.Type{Kind: api.TyArray, Name: "int", N: 1}, api.ErrArg},
	{api.Type{Kind: api.TyInt, N: 1}, api.ErrArg}, {api.Type{Kind: api.TyInt, N: 65}, api.ErrArg}, {api.Type{Kind: api.TyInt, N: -1}, api.ErrArg},
	{api.Type{Kind: api.TyInt, Name: "r"}, api.ErrArg}, {api.Type{Kind: api.TyInt, Name: "int"}, api.ErrArg},
	{api.Type{Kind: api.TyRef}, api.ErrArg}, {api.Type{Kind: api.TyRef, Name: "int"}, api.ErrArg}, {api.Type{Kind: api.TyRef, Name: "A"}, api.ErrArg},
	{api.Type{Kind: api.TyRef, Name: "r", N: 1}, api.ErrArg}, {api.Type{Kind: api.TyRef, Name: "r", N: 65}, api.ErrArg},
	{api.Type{Name: "r"}, api.ErrArg}, {api.Type{N: 1}, api.ErrArg}, {api.Type{N: 65}, api.ErrArg}, {api.Type{Name: "r", N: 2}, api.ErrArg},
	{api.Type{Kind: 4}, api.ErrArg}, {api.Type{Kind: 4, N: 65}, api.ErrArg}, {api.Type{Kind: 255, Name: "r", N: 2}, api.ErrArg},
}

func TestTypes(t *testing.T) {
	test := func(u api.Type, want api.Errno) {
		fields := []api.Field{{Name: "x", Type: u}}
		testCheck(t, "a field", api.Program{Records: []api.Record{{Name: "r", Fields: fields}}}, want)
		testCheck(t, "a shared variable", api.Program{Shared: fields}, want)
		testCheck(t, "a parameter", api.Program{Funcs: []api.Func{{Name: "f", Params: fields}}}, want)
		testCheck(t, "a variable", thread(variable("x", u, a)), want)
		testCheck(t, "a variable without a value", thread(variable("x", u, api.Expr{})), want)
		if s, e := show.Type(u); e != want || (s == "") != (e != api.OK) {
			t.Errorf("Type(%v): %q and the error %d, not %d", u, s, e, want)
		}
	}
	for _, r := range types {
		test(r.t, r.e)
		testCheck(t, "a result", api.Program{Funcs: []api.Func{{Name: "f", Result: r.t}}}, r.e)
		want := r.e
		if r.t.Kind == api.TyInt {
			want = api.ErrArg
		}
		testExpr(t, "a new one", made(r.t), want)
	}
	test(api.Type{}, api.ErrArg)
	testExpr(t, "a new none", made(api.Type{}), api.ErrArg)
}

func TestStmtFieldsOfOtherKinds(t *testing.T) {
	list := []api.Stmt{print(a)}
	almost := []api.Expr{{Name: "x"}, {N: 1}, {Type: intType}, {Args: []api.Expr{{}}}, a}
	for _, s := range stmts() {
		if s.Kind != api.StVar {
			u := s
			u.Name = "x"
			testCheck(t, "a name", thread(u), api.ErrArg)
			for _, wrong := range []api.Type{intType, refType, tooGreat, {Name: "r"}, {N: 65}} {
				u := s
				u.Type = wrong
				testCheck(t, "a type", thread(u), api.ErrArg)
			}
		}
		for _, x := range almost {
			u := s
			u.Y = x
			if s.Kind != api.StSet {
				testCheck(t, "a Y", thread(u), api.ErrArg)
			}
			u = s
			u.X = x
			if s.Kind == api.StAtomic || x.Kind == api.ExNone {
				testCheck(t, "an X that may not be", thread(u), api.ErrArg)
			}
		}
		u := s
		u.Body = list
		if len(s.Body) == 0 {
			testCheck(t, "a Body", thread(u), api.ErrArg)
		}
		u = s
		u.Else = list
		if s.Kind != api.StIf {
			testCheck(t, "an Else", thread(u), api.ErrArg)
		}
		u = s
		u.X = api.Expr{}
		if s.Kind != api.StVar && s.Kind != api.StReturn && s.Kind != api.StAtomic {
			testCheck(t, "no X", thread(u), api.ErrArg)
		} else {
			testCheck(t, "no X", thread(u), api.OK)
		}
	}
	testCheck(t, "no Y", thread(set(a, api.Expr{})), api.ErrArg)
}

func TestEmptyListsAreNone(t *testing.T) {
	none := api.Expr{Args: []api.Expr{}}
	for _, s := range stmts() {
		if s.Kind == api.StVar || s.Kind == api.StReturn || s.Kind == api.StAtomic {
			s.X = none
		}
		if s.Kind != api.StSet {
			s.Y = none
		}
		if len(s.Body) == 0 {
			s.Body = []api.Stmt{}
		}
		if len(s.Else) == 0 {
			s.Else = []api.Stmt{}
		}
		testCheck(t, "empty lists", thread(s), api.OK)
		u := s
		u.Body, u.Else = nil, nil
		testCheck(t, "no lists", thread(u), api.OK)
	}
	x := number(5)
	x.Args = []api.Expr{}
	testExpr(t, "a number with an empty list", x, api.OK)
	p := thread(api.Stmt{Kind: api.StVar, Name: "x", Type: intType, X: none})
	if n := show.Items(p); n != 1 {
		t.Errorf("an X with an empty list is %d items", n-1)
	}
	if s, _ := show.Program(p); s != "thread {\n  var x int;\n}\n" {
		t.Errorf("an X with an empty list: %q", s)
	}
}

// TestSetAndCall holds what an X may be where not all of them may stand.
func TestSetAndCall(t *testing.T) {
	for _, x := range exprs() {
		want := api.ErrArg
		if x.Kind == api.ExName || x.Kind == api.ExField || x.Kind == api.ExIndex {
			want = api.OK
		}
		testCheck(t, "set", thread(set(x, a)), want)
		want = api.ErrArg
		if x.Kind == api.ExCall {
			want = api.OK
		}
		testCheck(t, "called", thread(called(x)), want)
	}
}

func TestLimitsOfThings(t *testing.T) {
	record := api.Record{Name: "r", Fields: []api.Field{{Name: "x", Type: intType}}}
	fields := func(n int) []api.Field { return times(n, api.Field{Name: "x", Type: intType}) }
	rows := []struct {
		what string
		most int
		make func(n int) api.Program
	}{
		{"records", 16, func(n int) api.Program { return api.Program{Records: times(n, record)} }},
		{"fields", 16, func(n int) api.Program { return api.Program{Records: []api.Record{{Name: "r", Fields: fields(n)}}} }},
		{"parameters", 16, func(n int) api.Program { return api.Program{Funcs: []api.Func{{Name: "f", Params: fields(n)}}} }},
		{"functions", 32, func(n int) api.Program { return api.Program{Funcs: times(n, api.Func{Name: "f"})} }},
		{"threads", 4, func(n int) api.Program { return api.Program{Threads: make([][]api.Stmt, n)} }},
		{"shared variables", 1024, func(n int) api.Program { return api.Program{Shared: fields(n)} }},
		{"statements", 1024, func(n int) api.Program { return thread(times(n, back(api.Expr{}))...) }},
		{"elements", 64, func(n int) api.Program { return thread(print(made(api.Type{Kind: api.TyArray, N: n}))) }},
	}
	for _, r := range rows {
		for n := 1; n <= r.most; n += 1 + r.most/64 {
			testCheck(t, r.what, r.make(n), api.OK)
		}
		testCheck(t, r.what+", as many as may be", r.make(r.most), api.OK)
		testCheck(t, r.what+", one more", r.make(r.most+1), api.ErrLimit)
		testCheck(t, r.what+", many more", r.make(5*r.most), api.ErrLimit)
	}
	testCheck(t, "a record without a field", api.Program{Records: []api.Record{{Name: "r"}}}, api.ErrArg)
	testCheck(t, "a record with an empty list", api.Program{Records: []api.Record{{Name: "r", Fields: []api.Field{}}}}, api.ErrArg)
}

// TestTooManyAheadOfElse holds that what is one too many is told ahead of what else is wrong with it, and behind what is wrong ahead of it.
func TestTooManyAheadOfElse(t *testing.T) {
	record := api.Record{Name: "r", Fields: []api.Field{{Name: "x", Type: intType}}}
	good := api.Field{Name: "x", Type: intType}
	rows := []struct {
		what string
		most int
		make func(n int, bad int) api.Program
	}{
		{"records", 16, func(n, bad int) api.Program {
			l := times(n, record)
			l[bad] = api.Record{}
			return api.Program{Records: l}
		}},
		{"fields", 16, func(n, bad int) api.Program {
			l := times(n, good)
			l[bad] = api.Field{}
			return api.Program{Records: []api.Record{{Name: "r", Fields: l}}}
		}},
		{"shared variables", 1024, func(n, bad int) api.Program {
			l := times(n, good)
			l[bad] = api.Field{}
			return api.Program{Shared: l}
		}},
		{"parameters", 16, func(n, bad int) api.Program {
			l := times(n, good)
			l[bad] = api.Field{}
			return api.Program{Funcs: []api.Func{{Name: "f", Params: l}}}
		}},
		{"functions", 32, func(n, bad int) api.Program {
			l := times(n, api.Func{Name: "f"})
			l[bad] = api.Func{}
			return api.Program{Funcs: l}
		}},
		{"threads", 4, func(n, bad int) api.Program {
			l := make([][]api.Stmt, n)
			l[bad] = []api.Stmt{{}}
			return api.Program{Threads: l}
		}},
		{"items", 1024, func(n, bad int) api.Program {
			l := times(n, back(api.Expr{}))
			l[bad] = api.Stmt{}
			return thread(l...)
		}},
	}
	for _, r := range rows {
		testCheck(t, r.what+", the last one wrong", r.make(r.most, r.most-1), api.ErrArg)
		testCheck(t, r.what+", one more, which is wrong", r.make(r.most+1, r.most), api.ErrLimit)
		testCheck(t, r.what+", one more, the one ahead wrong", r.make(r.most+1, r.most-1), api.ErrArg)
		testCheck(t, r.what+", one more, the first one wrong", r.make(r.most+1, 0), api.ErrArg)
	}
}

func TestDepthOfStatements(t *testing.T) {
	arounds := []func([]api.Stmt) api.Stmt{
		func(l []api.Stmt) api.Stmt { return branch(a, l, nil) },
		func(l []api.Stmt) api.Stmt { return branch(a, nil, l) },
		func(l []api.Stmt) api.Stmt { return while(a, l...) },
		func(l []api.Stmt) api.Stmt { return atomic(l...) },
	}
	for _, around := range arounds {
		deepest := within(15, around, []api.Stmt{print(a)})
		testCheck(t, "16 deep", thread(deepest...), api.OK)
		testCheck(t, "16 deep in a function", api.Program{Funcs: []api.Func{{Name: "f", Body: deepest}}}, api.OK)
		testCheck(t, "an empty list 16 deep", thread(within(16, around, nil)...), api.OK)
		testCheck(t, "16 deep and wrong", thread(within(15, around, []api.Stmt{{}})...), api.ErrArg)
		for _, s := range []api.Stmt{print(a), back(api.Expr{}), {}, {Kind: 99}} {
			tooDeep := within(16, around, []api.Stmt{s})
			testCheck(t, "17 deep", thread(tooDeep...), api.ErrLimit)
			testCheck(t, "17 deep in a function", api.Program{Funcs: []api.Func{{Name: "f", Body: tooDeep}}}, api.ErrLimit)
		}
	}
}

func TestDepthOfExpressions(t *testing.T) {
	arounds := []func(api.Expr) api.Expr{
		neg, not,
		func(x api.Expr) api.Expr { return field(x, "f") },
		func(x api.Expr) api.Expr { return index(x, a) },
		func(x api.Expr) api.Expr { return index(a, x) },
		func(x api.Expr) api.Expr { return call("f", x) },
		func(x api.Expr) api.Expr { return call("f", a, b, x) },
		func(x api.Expr) api.Expr { return two(api.ExAdd, x, a) },
		func(x api.Expr) api.Expr { return two(api.ExOr, a, x) },
	}
	for _, around := range arounds {
		testExpr(t, "16 deep", nested(15, around, a), api.OK)
		testExpr(t, "17 deep", nested(16, around, a), api.ErrLimit)
		testExpr(t, "16 deep and wrong", nested(15, around, api.Expr{}), api.ErrArg)
		testExpr(t, "17 deep and wrong", nested(16, around, api.Expr{}), api.ErrLimit)
	}
	// Statements and expressions are counted each by itself.
	inner := nested(15, not, a)
	list := within(15, func(l []api.Stmt) api.Stmt { return while(inner, l...) }, []api.Stmt{set(field(nested(14, neg, a), "f"), inner)})
	testCheck(t, "16 deep in what is 16 deep", thread(list...), api.OK)
	list = within(15, func(l []api.Stmt) api.Stmt { return while(inner, l...) }, []api.Stmt{print(not(inner))})
	testCheck(t, "17 deep in what is 16 deep", thread(list...), api.ErrLimit)
}

func TestLimitOfItems(t *testing.T) {
	ahead := func(n int, list ...api.Stmt) api.Program {
		return thread(append(times(n, back(api.Expr{})), list...)...)
	}
	none := api.Expr{}
	rows := []struct {
		what  string
		s     api.Stmt
		items int
	}{
		{"a return", back(none), 1}, {"a return with a result", back(a), 2}, {"a variable", variable("x", intType, none), 1},
		{"a variable with a value", variable("x", intType, two(api.ExAdd, a, b)), 4}, {"set", set(a, b), 3},
		{"set, of a field", set(field(index(a, b), "f"), not(b)), 7}, {"called", called(call("f", a, b, a)), 5},
		{"an if", branch(a, []api.Stmt{print(a)}, []api.Stmt{print(b), back(none)}), 7}, {"a while", while(a, print(a)), 4},
		{"an atomic block", atomic(print(a), print(b)), 5},
	}
	for _, r := range rows {
		testCheck(t, r.what+", just the room", ahead(1024-r.items, r.s), api.OK)
		testCheck(t, r.what+", too little room", ahead(1025-r.items, r.s), api.ErrLimit)
		testCheck(t, r.what+", and one more", ahead(1024-r.items, r.s, back(none)), api.ErrLimit)
	}
	for n := range 4 {
		p := ahead(1024 - 3*n)
		p.Funcs = times(n, api.Func{Name: "f", Body: []api.Stmt{set(a, b)}})
		testCheck(t, "in functions and threads", p, api.OK)
		p.Threads = append(p.Threads, []api.Stmt{back(none)})
		testCheck(t, "in functions and threads, one more", p, api.ErrLimit)
	}
}

// TestNoneIsCounted holds that an X or a Y that is left out where it may not be is one item more.
func TestNoneIsCounted(t *testing.T) {
	ahead := func(n int, s api.Stmt) api.Program { return thread(append(times(n, back(api.Expr{})), s)...) }
	none := api.Expr{}
	for _, s := range []api.Stmt{print(none), branch(none, nil, nil), while(none)} {
		testCheck(t, "no X, with room", ahead(1022, s), api.ErrArg)
		testCheck(t, "no X, without room", ahead(1023, s), api.ErrLimit)
	}
	testCheck(t, "no Y, with room", ahead(1021, set(a, none)), api.ErrArg)
	testCheck(t, "no Y, without room", ahead(1022, set(a, none)), api.ErrLimit)
	for _, s := range []api.Stmt{set(none, a), called(none), {Kind: api.StAtomic, X: a}} {
		testCheck(t, "the statement's own form, with room", ahead(1023, s), api.ErrArg)
		testCheck(t, "the statement's own form, without room", ahead(1024, s), api.ErrLimit)
	}
	testCheck(t, "an Arg that is none, with room", ahead(1021, print(neg(none))), api.ErrArg)
	testCheck(t, "an Arg that is none, without room", ahead(1022, print(neg(none))), api.ErrLimit)
	testCheck(t, "an X that is left out", ahead(1023, variable("x", intType, none)), api.OK)
}

// TestFirstFault holds that of two faults the one is told to which the tree comes first.
func TestFirstFault(t *testing.T) {
	wrong, great := api.Expr{}, made(tooGreat)
	good := api.Field{Name: "x", Type: intType}
	bad, large := api.Field{Name: "x"}, api.Field{Name: "x", Type: tooGreat}
	record := func(l ...api.Field) api.Record { return api.Record{Name: "r", Fields: l} }
	rows := []struct {
		what string
		p    api.Program
		e    api.Errno
	}{
		{"fields", api.Program{Records: []api.Record{record(bad, large)}}, api.ErrArg},
		{"fields", api.Program{Records: []api.Record{record(large, bad)}}, api.ErrLimit},
		{"a field's name, then its type", api.Program{Records: []api.Record{record(api.Field{Name: "A", Type: tooGreat})}}, api.ErrArg},
		{"a record's name, then its fields", api.Program{Records: []api.Record{{Name: "A", Fields: []api.Field{large}}}}, api.ErrArg},
		{"records", api.Program{Records: []api.Record{record(large), {}}}, api.ErrLimit},
		{"records", api.Program{Records: []api.Record{{}, record(large)}}, api.ErrArg},
		{"records, then shared variables", api.Program{Records: []api.Record{record(large)}, Shared: []api.Field{bad}}, api.ErrLimit},
		{"records, then shared variables", api.Program{Records: []api.Record{record(bad)}, Shared: []api.Field{large}}, api.ErrArg},
		{"shared variables, then functions", api.Program{Shared: []api.Field{large}, Funcs: []api.Func{{}}}, api.ErrLimit},
		{"shared variables, then functions", api.Program{Shared: []api.Field{bad}, Funcs: make([]api.Func, 33)}, api.ErrArg},
		{"a function's name, then its parameters", api.Program{Funcs: []api.Func{{Name: "A", Params: []api.Field{large}}}}, api.ErrArg},
		{"parameters, then the result", api.Program{Funcs: []api.Func{{Name: "f", Params: []api.Field{large}, Result: api.Type{N: 1}}}}, api.ErrLimit},
		{"parameters, then the result", api.Program{Funcs: []api.Func{{Name: "f", Params: []api.Field{bad}, Result: tooGreat}}}, api.ErrArg},
		{"too many parameters, then the result", api.Program{Funcs: []api.Func{{Name: "f", Params: times(17, good), Result: api.Type{N: 1}}}}, api.ErrLimit},
		{"the result, then the statements", api.Program{Funcs: []api.Func{{Name: "f", Result: tooGreat, Body: []api.Stmt{{}}}}}, api.ErrLimit},
		{"the result, then the statements", api.Program{Funcs: []api.Func{{Name: "f", Result: api.Type{N: 1}, Body: []api.Stmt{print(great)}}}}, api.ErrArg},
		{"functions in order", api.Program{Funcs: []api.Func{{Name: "f", Body: []api.Stmt{print(great)}}, {}}}, api.ErrLimit},
		{"functions, then threads", api.Program{Funcs: []api.Func{{Name: "f", Body: []api.Stmt{print(wrong)}}}, Threads: [][]api.Stmt{{print(great)}}}, api.ErrArg},
		{"functions, then threads", api.Program{Funcs: []api.Func{{Name: "f", Body: []api.Stmt{print(great)}}}, Threads: [][]api.Stmt{{print(wrong)}}}, api.ErrLimit},
		{"threads in order", api.Program{Threads: [][]api.Stmt{{print(great)}, {print(wrong)}}}, api.ErrLimit},
		{"threads in order", api.Program{Threads: [][]api.Stmt{{print(wrong)}, {print(great)}}}, api.ErrArg},
		{"statements in order", thread(print(great), api.Stmt{}), api.ErrLimit},
		{"statements in order", thread(api.Stmt{}, print(great)), api.ErrArg},
		{"a statement's own form, then X", thread(api.Stmt{Kind: api.StPrint, Name: "x", X: great}), api.ErrArg},
		{"a statement's type, then X", thread(variable("x", tooGreat, api.Expr{Kind: 99})), api.ErrLimit},
		{"within a StVar's own form", thread(variable("A", tooGreat, a)), api.ErrArg},
		{"within a StVar's own form", thread(api.Stmt{Kind: api.StVar, Name: "x", Type: tooGreat, Y: a}), api.ErrArg},
		{"within a StVar's own form", thread(api.Stmt{Kind: api.StVar, Name: "x", Type: tooGreat, Body: []api.Stmt{{}}}), api.ErrArg},
		{"within a StVar's own form", thread(api.Stmt{Kind: api.StVar, Name: "x", Type: tooGreat, Else: []api.Stmt{{}}}), api.ErrArg},
		{"within a StVar's own form", thread(variable("x", api.Type{Kind: api.TyArray, Name: "A", N: 65}, a)), api.ErrArg},
		{"X, then Y", thread(set(index(a, great), wrong)), api.ErrLimit},
		{"X, then Y", thread(set(index(a, wrong), great)), api.ErrArg},
		{"a StSet's own form, then Y", thread(set(number(1), great)), api.ErrArg},
		{"Y, then the next statement", thread(set(a, great), api.Stmt{}), api.ErrLimit},
		{"X, then Body", thread(while(great, api.Stmt{})), api.ErrLimit},
		{"X, then Body", thread(while(wrong, print(great))), api.ErrArg},
		{"Body, then Else", thread(branch(a, []api.Stmt{print(great)}, []api.Stmt{{}})), api.ErrLimit},
		{"Body, then Else", thread(branch(a, []api.Stmt{{}}, []api.Stmt{print(great)})), api.ErrArg},
		{"Else, then the next statement", thread(branch(a, nil, []api.Stmt{print(great)}), api.Stmt{}), api.ErrLimit},
		{"an own form, then what is too deep", thread(api.Stmt{Kind: api.StWhile, Body: within(16, func(l []api.Stmt) api.Stmt { return atomic(l...) }, []api.Stmt{print(a)})}), api.ErrArg},
	}
	for _, r := range rows {
		testCheck(t, r.what, r.p, r.e)
	}
}

func TestFirstFaultOfExpressions(t *testing.T) {
	wrong, great := api.Expr{}, made(tooGreat)
	tooDeep := nested(16, not, a)
	rows := []struct {
		what string
		x    api.Expr
		e    api.Errno
	}{
		{"Args in order", two(api.ExAdd, great, wrong), api.ErrLimit},
		{"Args in order", two(api.ExAdd, wrong, great), api.ErrArg},
		{"an Arg's Args, then the next Arg", two(api.ExAdd, neg(great), wrong), api.ErrLimit},
		{"an Arg's Args, then the next Arg", two(api.ExAdd, neg(wrong), great), api.ErrArg},
		{"an own form, then the Args", api.Expr{Kind: api.ExAdd, Args: []api.Expr{great}}, api.ErrArg},
		{"an own form, then the Args", api.Expr{Kind: api.ExField, Name: "A", Args: []api.Expr{great}}, api.ErrArg},
		{"an own form, then the Args", api.Expr{Kind: api.ExCall, N: 1, Name: "f", Args: []api.Expr{great}}, api.ErrArg},
		{"an own form, then too deep", api.Expr{Kind: api.ExNot, N: 1, Args: []api.Expr{tooDeep}}, api.ErrArg},
		{"too deep, then an own form", two(api.ExAdd, tooDeep, wrong), api.ErrLimit},
		{"too deep behind an own form", two(api.ExAdd, wrong, tooDeep), api.ErrArg},
		{"within an ExNew's own form", api.Expr{Kind: api.ExNew, N: 1, Type: tooGreat}, api.ErrArg},
		{"within an ExNew's own form", api.Expr{Kind: api.ExNew, Name: "x", Type: tooGreat}, api.ErrArg},
		{"within an ExNew's own form", api.Expr{Kind: api.ExNew, Type: tooGreat, Args: []api.Expr{a}}, api.ErrArg},
		{"within an ExNew's own form", made(api.Type{Kind: api.TyArray, Name: "A", N: 65}), api.ErrArg},
		{"within an ExNew's own form", made(api.Type{Kind: api.TyInt, N: 65}), api.ErrArg},
		{"the items ahead of an Arg's form", call("f", append(times(1023, a), wrong)...), api.ErrLimit},
		{"the last item's form", call("f", append(times(1022, a), wrong)...), api.ErrArg},
	}
	for _, r := range rows {
		if s, e := show.Expr(r.x); s != "" || e != r.e {
			t.Errorf("%s: %q and the error %d, not %d", r.what, s, e, r.e)
		}
	}
}

// TestCheckEnds holds that trees without an end are given up.
func TestCheckEnds(t *testing.T) {
	args := []api.Expr{not(a), not(a)}
	args[0].Args, args[1].Args = args[:1], args[1:]
	testExpr(t, "an expression within itself", args[0], api.ErrLimit)
	list := []api.Stmt{while(a)}
	list[0].Body = list
	testCheck(t, "a statement within itself", thread(list...), api.ErrLimit)
	testExpr(t, "a very deep one", nested(60000, not, a), api.ErrLimit)
	testExpr(t, "a very long name", name(strings.Repeat("a", 1<<20)), api.ErrArg)
	testCheck(t, "very many items", thread(times(100000, print(a))...), api.ErrLimit)
}

func TestItems(t *testing.T) {
	none := api.Expr{}
	args := api.Expr{Args: []api.Expr{{}, {Args: []api.Expr{{}}}}}
	rows := []struct {
		what string
		p    api.Program
		n    int
	}{
		{"nothing", api.Program{}, 0},
		{"what is no item", api.Program{Records: make([]api.Record, 20), Shared: make([]api.Field, 20), Funcs: make([]api.Func, 40), Threads: make([][]api.Stmt, 9)}, 0},
		{"the chapter's example", counter(), 6},
		{"all", whole(), wholeItems},
		{"one of each statement", thread(stmts()...), 2 + 3 + 4 + 3 + 2 + 2 + 2 + 2},
		{"one of each expression", thread(called(call("f", exprs()...))), 1 + 1 + 22 + 1 + 2 + 2 + 1 + 1 + 13*2},
		{"a statement that is none", thread(api.Stmt{}), 1},
		{"an X that is none, in a print", thread(print(none)), 1},
		{"an X and a Y that are none, in a set", thread(set(none, none)), 1},
		{"an X and a Y where none may stand", thread(api.Stmt{Kind: api.StAtomic, X: a, Y: not(b)}), 4},
		{"an Else, a Body where none may stand", thread(api.Stmt{Kind: api.StPrint, Body: []api.Stmt{{}, {}}, Else: []api.Stmt{print(a)}}), 5},
		{"an X that is none but for its name", thread(api.Stmt{X: api.Expr{Name: "x"}, Y: api.Expr{N: 1}}), 3},
		{"an X that is none but for its type", thread(api.Stmt{X: api.Expr{Type: intType}}), 2},
		{"Args that are none", thread(api.Stmt{X: args}), 5},
		{"as many as may be", thread(times(512, print(a))...), 1024},
		{"more than may be", thread(times(5000, set(a, b))...), 15000},
		{"deeper than may be", thread(print(nested(5000, not, a))), 5002},
		{"lists deeper than may be", thread(within(5000, func(l []api.Stmt) api.Stmt { return branch(a, nil, l) }, nil)...), 10000},
		{"more things than may be", api.Program{Funcs: times(40, api.Func{Body: []api.Stmt{print(a)}}), Threads: times(9, []api.Stmt{back(a)})}, 98},
	}
	for _, r := range rows {
		if n := show.Items(r.p); n != r.n {
			t.Errorf("%s: %d items, not %d", r.what, n, r.n)
		}
	}
}

// TestGivenIsKept holds that what is handed in is not changed, its spare room neither.
func TestGivenIsKept(t *testing.T) {
	p := whole()
	for _, x := range []api.Expr{a, {}} {
		list := append(p.Threads[0], print(x))[:len(p.Threads[0])]
		p.Threads[0] = list
		if _, e := show.Program(p); e != api.OK || show.Items(p) != wholeItems {
			t.Errorf("the error %d, %d items", e, show.Items(p))
		}
		if spare := list[:len(list)+1][len(list)]; !reflect.DeepEqual(spare, print(x)) {
			t.Errorf("the spare room has become %v", spare)
		}
		if !reflect.DeepEqual(p, whole()) {
			t.Error("the program has become another one")
		}
	}
}
