package show_test

import (
	"strings"
	"testing"

	"turnstile/api"
	"turnstile/show"
)

// whole is a program with all kinds of things, of statements and of expressions, but for the signs between two operands.
func whole() api.Program {
	none := api.Expr{}
	return api.Program{
		Records: []api.Record{
			{Name: "r", Fields: []api.Field{{Name: "x", Type: intType}, {Name: "next", Type: refType}}},
			{Name: longName, Fields: []api.Field{{Name: "l", Type: intArray}, {Name: "m", Type: refArray}}},
		},
		Shared: []api.Field{{Name: "n", Type: intType}, {Name: "head", Type: refType}, {Name: "t_1", Type: refArray}},
		Funcs: []api.Func{
			{Name: "f"},
			{Name: "g", Params: []api.Field{{Name: "p", Type: refType}}, Result: intType, Body: []api.Stmt{back(field(name("p"), "x"))}},
			{Name: "h", Params: []api.Field{{Name: "p", Type: intArray}, {Name: "q", Type: intType}, {Name: "s", Type: refType}}, Result: refArray, Body: []api.Stmt{
				branch(name("q"), []api.Stmt{back(nilExpr)}, []api.Stmt{back(made(refArray))}),
			}},
			{Name: "i", Body: []api.Stmt{back(none)}},
		},
		Threads: [][]api.Stmt{{
			variable("i", intType, number(-5)),
			variable("p", refType, none),
			while(two(api.ExLt, name("i"), number(3)),
				atomic(
					branch(two(api.ExEq, name("head"), nilExpr), []api.Stmt{set(name("head"), made(refType))}, nil),
					branch(not(name("i")), nil, []api.Stmt{set(field(name("head"), "x"), neg(name("i")))}),
					branch(number(1), []api.Stmt{print(number(1))}, []api.Stmt{
						branch(number(2), nil, nil),
						set(index(name("t_1"), two(api.ExSub, name("i"), number(1))), name("head")),
					}),
				),
				called(call("i")),
			),
			print(call("g", nilExpr)),
		}, nil, {
			variable("z", intArray, made(intArray)),
			atomic(),
			called(call("h", name("z"), number(greatest), made(refType))),
			while(number(0)),
		}},
	}
}

const wholeItems = (2) + (1 + 3 + 2 + 2) + (1) + // f and g, h, i
	(2 + 1 + 4 + 1 + (4 + 3) + (3 + 5) + (2 + 2 + 2 + 6) + 2 + 3) + // the first thread
	(2 + 1 + 5 + 2) // the last one

var wholeText = strings.Join([]string{
	"record r {",
	"  x int;",
	"  next r;",
	"}",
	"record zzzzzzzzzzzzzzzz {",
	"  l [2]int;",
	"  m [8]r;",
	"}",
	"shared n int;",
	"shared head r;",
	"shared t_1 [8]r;",
	"func f() {",
	"}",
	"func g(p r) int {",
	"  return p.x;",
	"}",
	"func h(p [2]int, q int, s r) [8]r {",
	"  if q {",
	"    return nil;",
	"  } else {",
	"    return new [8]r;",
	"  }",
	"}",
	"func i() {",
	"  return;",
	"}",
	"thread {",
	"  var i int = -5;",
	"  var p r;",
	"  while i < 3 {",
	"    atomic {",
	"      if head == nil {",
	"        head = new r;",
	"      }",
	"      if !i {",
	"      } else {",
	"        head.x = -i;",
	"      }",
	"      if 1 {",
	"        print 1;",
	"      } else {",
	"        if 2 {",
	"        }",
	"        t_1[i - 1] = head;",
	"      }",
	"    }",
	"    i();",
	"  }",
	"  print g(nil);",
	"}",
	"thread {",
	"}",
	"thread {",
	"  var z [2]int = new [2]int;",
	"  atomic {",
	"  }",
	"  h(z, 9223372036854775807, new r);",
	"  while 0 {",
	"  }",
	"}",
}, "\n") + "\n"

// counter is the chapter's example.
func counter() api.Program {
	return api.Program{
		Records: []api.Record{{Name: "r", Fields: []api.Field{{Name: "x", Type: intType}}}},
		Shared:  []api.Field{{Name: "n", Type: intType}},
		Threads: [][]api.Stmt{{atomic(set(name("n"), two(api.ExAdd, name("n"), number(1))))}},
	}
}

const counterText = "record r {\n  x int;\n}\nshared n int;\nthread {\n  atomic {\n    n = n + 1;\n  }\n}\n"

func testProgram(t *testing.T, p api.Program, want string) {
	t.Helper()
	s, e := show.Program(p)
	if e != api.OK || s != want {
		t.Errorf("Program told the error %d and\n%s\nnot\n%s", e, s, want)
	}
}

func testText(t *testing.T, x api.Expr, want string) {
	t.Helper()
	if s, e := show.Expr(x); s != want || e != api.OK {
		t.Errorf("Expr told %q and the error %d, not %q", s, e, want)
	}
}

func TestProgramText(t *testing.T) {
	testProgram(t, api.Program{}, "")
	testProgram(t, counter(), counterText)
	testProgram(t, whole(), wholeText)
}

func TestStatementText(t *testing.T) {
	none := api.Expr{}
	rows := []struct {
		s    api.Stmt
		text string
	}{
		{variable("x", intType, none), "  var x int;\n"},
		{variable("x", intType, number(0)), "  var x int = 0;\n"},
		{variable("x", refArray, nilExpr), "  var x [8]r = nil;\n"},
		{set(a, b), "  a = b;\n"},
		{set(field(a, "f"), two(api.ExAnd, a, b)), "  a.f = a && b;\n"},
		{set(index(call("f"), b), neg(number(5))), "  f()[b] = -(5);\n"},
		{set(field(two(api.ExAdd, a, b), "f"), nilExpr), "  (a + b).f = nil;\n"},
		{print(two(api.ExAdd, a, b)), "  print a + b;\n"},
		{back(none), "  return;\n"},
		{back(a), "  return a;\n"},
		{called(call("f", a)), "  f(a);\n"},
		{atomic(), "  atomic {\n  }\n"},
		{atomic(print(a)), "  atomic {\n    print a;\n  }\n"},
		{while(a), "  while a {\n  }\n"},
		{while(a, print(a), while(b, back(none))), "  while a {\n    print a;\n    while b {\n      return;\n    }\n  }\n"},
		{branch(a, nil, nil), "  if a {\n  }\n"},
		{branch(a, []api.Stmt{}, []api.Stmt{}), "  if a {\n  }\n"},
		{branch(a, []api.Stmt{print(a)}, nil), "  if a {\n    print a;\n  }\n"},
		{branch(a, nil, []api.Stmt{print(b)}), "  if a {\n  } else {\n    print b;\n  }\n"},
		{branch(a, []api.Stmt{print(a)}, []api.Stmt{branch(b, nil, []api.Stmt{back(none)})}), "  if a {\n    print a;\n  } else {\n    if b {\n    } else {\n      return;\n    }\n  }\n"},
	}
	for _, r := range rows {
		testProgram(t, thread(r.s), "thread {\n"+r.text+"}\n")
		testProgram(t, api.Program{Funcs: []api.Func{{Name: "f", Body: []api.Stmt{r.s, r.s}}}}, "func f() {\n"+r.text+r.text+"}\n")
	}
}

// TestMargin holds two blanks for each list in which a line stands.
func TestMargin(t *testing.T) {
	list := within(15, func(l []api.Stmt) api.Stmt { return atomic(l...) }, []api.Stmt{print(a)})
	lines, ends := "thread {\n", ""
	for n := 1; n <= 15; n++ {
		lines += strings.Repeat("  ", n) + "atomic {\n"
		ends = strings.Repeat("  ", n) + "}\n" + ends
	}
	testProgram(t, thread(list...), lines+strings.Repeat("  ", 16)+"print a;\n"+ends+"}\n")
}

func TestOrderOfThings(t *testing.T) {
	x := []api.Field{{Name: "x", Type: intType}}
	testProgram(t, api.Program{
		Threads: [][]api.Stmt{{print(a)}, {print(b)}},
		Funcs:   []api.Func{{Name: "g"}, {Name: "f", Params: x, Result: refType}},
		Shared:  []api.Field{{Name: "n", Type: intArray}, {Name: "m", Type: refType}},
		Records: []api.Record{{Name: "s", Fields: x}, {Name: "r", Fields: x}},
	}, "record s {\n  x int;\n}\nrecord r {\n  x int;\n}\nshared n [2]int;\nshared m r;\nfunc g() {\n}\nfunc f(x int) r {\n}\nthread {\n  print a;\n}\nthread {\n  print b;\n}\n")
}

// atLimit is a program whose text has as many bytes as a text may have, if n has six digits.
func atLimit(n int64) api.Program {
	long := api.Type{Kind: api.TyArray, Name: longName, N: 64}
	list := append(times(409, variable(longName, long, api.Expr{})), print(number(n)))
	return api.Program{Shared: times(1024, api.Field{Name: longName, Type: long}), Threads: [][]api.Stmt{list}}
}

func TestLimitOfText(t *testing.T) {
	if s, e := show.Program(atLimit(100000)); len(s) != 65536 || e != api.OK {
		t.Errorf("%d bytes and the error %d", len(s), e)
	}
	if s, e := show.Program(atLimit(10000)); len(s) != 65535 || e != api.OK {
		t.Errorf("%d bytes and the error %d", len(s), e)
	}
	p := atLimit(1000000)
	if s, e := show.Program(p); len(s) != 0 || e != api.ErrLimit {
		t.Errorf("one byte more: %d bytes and the error %d", len(s), e)
	}
	if e := show.Check(p); e != api.OK {
		t.Errorf("Check asks for the text's length: %d", e)
	}
	p.Threads = append(p.Threads, []api.Stmt{{}})
	if s, e := show.Program(p); len(s) != 0 || e != api.ErrArg {
		t.Errorf("too long and wrong: %d bytes and the error %d", len(s), e)
	}
}

func TestTypeText(t *testing.T) {
	rows := []struct {
		t    api.Type
		text string
	}{
		{intType, "int"}, {refType, "r"}, {intArray, "[2]int"}, {refArray, "[8]r"},
		{api.Type{Kind: api.TyArray, N: 1}, "[1]int"}, {api.Type{Kind: api.TyArray, N: 64}, "[64]int"},
		{api.Type{Kind: api.TyRef, Name: longName}, longName}, {api.Type{Kind: api.TyArray, Name: longName, N: 10}, "[10]" + longName},
	}
	for _, r := range rows {
		if s, e := show.Type(r.t); s != r.text || e != api.OK {
			t.Errorf("Type(%v): %q and the error %d, not %q", r.t, s, e, r.text)
		}
		testProgram(t, api.Program{Shared: []api.Field{{Name: "n", Type: r.t}}}, "shared n "+r.text+";\n")
		if r.t.Kind != api.TyInt {
			testText(t, made(r.t), "new "+r.text)
		}
	}
}

func TestExprText(t *testing.T) {
	five := number(5)
	sum := two(api.ExAdd, a, b)
	rows := []struct {
		x    api.Expr
		text string
	}{
		{five, "5"}, {number(-5), "-5"}, {number(0), "0"}, {number(least), "-9223372036854775808"}, {number(greatest), "9223372036854775807"},
		{nilExpr, "nil"}, {a, "a"}, {name(longName), longName}, {made(refType), "new r"}, {made(intArray), "new [2]int"},
		{call("f"), "f()"}, {call("f", a), "f(a)"}, {call("f", number(1), nilExpr), "f(1, nil)"}, {call("f", sum, neg(a), call("g", a, b)), "f(a + b, -a, g(a, b))"},

		{two(api.ExAdd, a, two(api.ExMul, b, number(-5))), "a + (b * -5)"}, {two(api.ExMul, sum, sum), "(a + b) * (a + b)"},
		{two(api.ExSub, two(api.ExSub, a, b), number(1)), "(a - b) - 1"}, {two(api.ExSub, a, number(-1)), "a - -1"},
		{two(api.ExSub, neg(a), neg(b)), "-a - -b"}, {two(api.ExOr, not(a), not(sum)), "!a || !(a + b)"},
		{two(api.ExEq, field(a, "f"), index(a, b)), "a.f == a[b]"}, {two(api.ExLe, call("f", a), made(refType)), "f(a) <= new r"},

		{neg(five), "-(5)"}, {neg(number(0)), "-(0)"}, {neg(number(greatest)), "-(9223372036854775807)"}, {neg(number(-5)), "--5"}, {neg(number(least)), "--9223372036854775808"},
		{neg(neg(a)), "--a"}, {neg(neg(five)), "--(5)"}, {neg(neg(number(-5))), "---5"}, {neg(not(five)), "-!5"}, {neg(sum), "-(a + b)"},
		{neg(two(api.ExAdd, five, a)), "-(5 + a)"}, {neg(field(five, "f")), "-(5.f)"}, {neg(index(five, a)), "-(5[a])"}, {neg(field(index(five, a), "f")), "-(5[a].f)"},
		{neg(field(number(-5), "f")), "--5.f"}, {neg(field(neg(five), "f")), "-(-(5)).f"}, {neg(field(two(api.ExAdd, five, a), "f")), "-(5 + a).f"}, {neg(index(a, five)), "-a[5]"},
		{neg(call("f", five)), "-f(5)"}, {neg(made(intArray)), "-new [2]int"}, {neg(nilExpr), "-nil"}, {neg(a), "-a"},
		{not(five), "!5"}, {not(number(-5)), "!-5"}, {not(not(a)), "!!a"}, {not(neg(five)), "!-(5)"}, {not(sum), "!(a + b)"}, {not(field(five, "f")), "!5.f"}, {not(nilExpr), "!nil"},

		{field(five, "f"), "5.f"}, {field(number(-5), "f"), "-5.f"}, {field(nilExpr, "f"), "nil.f"}, {field(a, "f"), "a.f"}, {field(field(a, "f"), "g"), "a.f.g"},
		{field(index(a, b), "f"), "a[b].f"}, {field(made(refType), "f"), "new r.f"}, {field(call("f"), "f"), "f().f"}, {field(neg(a), "f"), "(-a).f"},
		{field(not(a), "f"), "(!a).f"}, {field(sum, "f"), "(a + b).f"},
		{index(five, a), "5[a]"}, {index(number(-5), a), "-5[a]"}, {index(nilExpr, a), "nil[a]"}, {index(a, b), "a[b]"}, {index(index(a, b), five), "a[b][5]"},
		{index(field(a, "f"), b), "a.f[b]"}, {index(made(intArray), number(1)), "new [2]int[1]"}, {index(call("f"), a), "f()[a]"}, {index(neg(a), b), "(-a)[b]"},
		{index(not(a), b), "(!a)[b]"}, {index(sum, b), "(a + b)[b]"},
		{index(a, sum), "a[a + b]"}, {index(a, neg(five)), "a[-(5)]"}, {index(a, not(b)), "a[!b]"}, {index(a, index(a, b)), "a[a[b]]"}, {field(neg(five), "f"), "(-(5)).f"},
	}
	for _, r := range rows {
		testText(t, r.x, r.text)
		testProgram(t, thread(print(r.x)), "thread {\n  print "+r.text+";\n}\n")
	}
}

// TestSignsBetween goes through all signs: ahead of, behind and within each other, and where brackets are asked for.
func TestSignsBetween(t *testing.T) {
	for k, s := range signs {
		x, text := two(k, a, b), "a "+s+" b"
		testText(t, x, text)
		testText(t, neg(x), "-("+text+")")
		testText(t, not(x), "!("+text+")")
		testText(t, field(x, "f"), "("+text+").f")
		testText(t, index(x, x), "("+text+")["+text+"]")
		testText(t, call("f", x, x), "f("+text+", "+text+")")
		for l, other := range signs {
			testText(t, two(l, x, a), "("+text+") "+other+" a")
			testText(t, two(l, a, x), "a "+other+" ("+text+")")
			testText(t, two(l, x, x), "("+text+") "+other+" ("+text+")")
		}
	}
	if len(signs) != int(api.ExOr-api.ExAdd)+1 {
		t.Errorf("%d signs", len(signs))
	}
}
