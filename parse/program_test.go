package parse_test

import (
	"strings"
	"testing"

	"turnstile/api"
	"turnstile/parse"
)

// wholeText has every kind of thing, of statement and of expression; its things stand in no order.
const wholeText = `// all of it
thread {
  var i int = -5; var p r;
  while i < 3 {
    i = i + 1;
    atomic { if head == nil { head = new r; } else { if !i { } } }
  }
  f(i,
    nil);
}

shared head r;
record r {
  x int; next r;
  all [2]int; every [8]r;
}
func f(n int, q r) int {
  if n != 0 || q == nil
  { return
    n * 2 / (n - 1) % 7; }
  return q.all[n] - -n;
} shared t [2]int; func g()
{ return;
  print 1 <= 2 && 3 > 4; print 5 >= 6; }
record s { x int; }
thread { } thread {
  new [8]r[0].x = 9223372036854775807; }
`

func wholeTree() api.Program {
	i, n, q, head := name("i"), name("n"), name("q"), name("head")
	inner := stmt(api.StIf, of(api.ExEq, head, null), set(head, made(ref)))
	inner.Else = []api.Stmt{stmt(api.StIf, of(api.ExNot, i))}
	return api.Program{
		Records: []api.Record{
			{Name: "r", Fields: []api.Field{{Name: "x", Type: whole}, {Name: "next", Type: ref}, {Name: "all", Type: wholes}, {Name: "every", Type: refs}}},
			{Name: "s", Fields: []api.Field{{Name: "x", Type: whole}}},
		},
		Shared: []api.Field{{Name: "head", Type: ref}, {Name: "t", Type: wholes}},
		Funcs: []api.Func{
			{Name: "f", Params: []api.Field{{Name: "n", Type: whole}, {Name: "q", Type: ref}}, Result: whole, Body: []api.Stmt{
				stmt(api.StIf, of(api.ExOr, of(api.ExNe, n, number(0)), of(api.ExEq, q, null)),
					stmt(api.StReturn, of(api.ExMod, of(api.ExDiv, of(api.ExMul, n, number(2)), of(api.ExSub, n, number(1))), number(7)))),
				stmt(api.StReturn, of(api.ExSub, of(api.ExIndex, dot(q, "all"), n), of(api.ExNeg, n))),
			}},
			{Name: "g", Body: []api.Stmt{
				stmt(api.StReturn, none),
				stmt(api.StPrint, of(api.ExAnd, of(api.ExLe, number(1), number(2)), of(api.ExGt, number(3), number(4)))),
				stmt(api.StPrint, of(api.ExGe, number(5), number(6))),
			}},
		},
		Threads: [][]api.Stmt{
			{
				variable("i", whole, number(-5)), variable("p", ref, none),
				stmt(api.StWhile, of(api.ExLt, i, number(3)), set(i, of(api.ExAdd, i, number(1))), stmt(api.StAtomic, none, inner)),
				stmt(api.StCall, call("f", i, null)),
			},
			nil,
			{set(dot(of(api.ExIndex, made(refs), number(0)), "x"), number(greatest))},
		},
	}
}

// wholeLines are, in the order of places: r, s; head, t; f and its three statements, g and its three; the threads and theirs.
var wholeLines = []int{12, 24, 11, 21, 16, 17, 18, 20, 21, 22, 23, 23, 1, 2, 2, 3, 4, 5, 5, 5, 5, 7, 25, 25, 26}

func TestWholeProgram(t *testing.T) {
	testTree(t, wholeText, wholeTree(), wholeLines...)
}

// TestChapter holds the chapter's examples of programs.
func TestChapter(t *testing.T) {
	testTree(t, "", api.Program{})
	testTree(t, "thread { }", thread(), 0)
	testError(t, "thread {\nprint 1\n}", 2, api.ErrSyntax)
	for _, s := range []string{"record r { }", "thread { f(1) + 2; }", "thread { else }", "thread { if 1 { } else if 2 { } }"} {
		testError(t, s, 0, api.ErrSyntax)
	}
	testError(t, "thread {", 0, api.ErrSyntax)
	testError(t, "thread {\n", 1, api.ErrSyntax)
	testError(t, "shared a [65]int;", 0, api.ErrLimit)
	testError(t, "\nthread { } thread { } thread { } thread { } thread { }", 1, api.ErrLimit)
	p := thread(set(name("n"), number(1)))
	p.Shared = []api.Field{{Name: "n", Type: whole}}
	p.Records = []api.Record{{Name: "r", Fields: []api.Field{{Name: "x", Type: whole}}}}
	testTree(t, "shared n int; thread { n = 1; }\nrecord r { x int; }", p, 1, 0, 0, 0)
}

func TestTextsOfNothing(t *testing.T) {
	for _, s := range []string{" ", "\n", "\n\n\t\r ", "// thread {", "// thread {\n// }\n", "\n//"} {
		testTree(t, s, api.Program{})
	}
}

func TestThingsOfAProgram(t *testing.T) {
	x := []api.Field{{Name: "x", Type: whole}}
	xy := []api.Field{{Name: "x", Type: refs}, {Name: "y", Type: ref}}
	rows := []struct {
		text string
		p    api.Program
	}{
		{"record r { x int; }", api.Program{Records: []api.Record{{Name: "r", Fields: x}}}},
		{"record r { x [8]r; y r; }", api.Program{Records: []api.Record{{Name: "r", Fields: xy}}}},
		{"shared x int;", api.Program{Shared: x}},
		{"shared x [64]int;", api.Program{Shared: []api.Field{{Name: "x", Type: api.Type{Kind: api.TyArray, N: 64}}}}},
		{"shared x [1]r;", api.Program{Shared: []api.Field{{Name: "x", Type: api.Type{Kind: api.TyArray, N: 1, Name: "r"}}}}},
		{"func f() { }", api.Program{Funcs: []api.Func{{Name: "f"}}}},
		{"func f() int { }", api.Program{Funcs: []api.Func{{Name: "f", Result: whole}}}},
		{"func f(x int) r { }", api.Program{Funcs: []api.Func{{Name: "f", Params: x, Result: ref}}}},
		{"func f(x [8]r, y r) [2]int { }", api.Program{Funcs: []api.Func{{Name: "f", Params: xy, Result: wholes}}}},
		{"thread { }", thread()},
	}
	for _, r := range rows {
		testTree(t, r.text, r.p, 0)
	}
	testTree(t, "thread { }\nthread { } thread { }", api.Program{Threads: make([][]api.Stmt, 3)}, 0, 1, 1)
}

func TestStatements(t *testing.T) {
	other := stmt(api.StIf, a, stmt(api.StPrint, a))
	other.Else = []api.Stmt{stmt(api.StPrint, b), stmt(api.StPrint, c)}
	only := stmt(api.StIf, a)
	only.Else = []api.Stmt{stmt(api.StAtomic, none)}
	rows := []struct {
		text  string
		s     api.Stmt
		lines []int
	}{
		{"var x int;", variable("x", whole, none), []int{1}}, {"var x r = nil;", variable("x", ref, null), []int{1}}, {"var x\n[8]r\n= new\n[8]r;", variable("x", refs, made(refs)), []int{1}},
		{"a = b;", set(a, b), []int{1}}, {"(a) = b;", set(a, b), []int{1}}, {"((a))\n=\nb;", set(a, b), []int{1}}, {"a.f = b && c;", set(dot(a, "f"), of(api.ExAnd, b, c)), []int{1}}, {"(a.f) = 1;", set(dot(a, "f"), number(1)), []int{1}},
		{"a[b] = c;", set(of(api.ExIndex, a, b), c), []int{1}}, {"(a + b).f = c;", set(dot(of(api.ExAdd, a, b), "f"), c), []int{1}}, {"f(a)[b] = c;", set(of(api.ExIndex, call("f", a), b), c), []int{1}}, {"new r.f = 1;", set(dot(made(ref), "f"), number(1)), []int{1}},
		{"5.f = 1;", set(dot(number(5), "f"), number(1)), []int{1}}, {"-5.f = 1;", set(dot(number(-5), "f"), number(1)), []int{1}}, {"nil[0] = 1;", set(of(api.ExIndex, null, number(0)), number(1)), []int{1}}, {"(-a).f = 1;", set(dot(of(api.ExNeg, a), "f"), number(1)), []int{1}},
		{"f();", stmt(api.StCall, call("f")), []int{1}}, {"f(a,\nb);", stmt(api.StCall, call("f", a, b)), []int{1}}, {"(f());", stmt(api.StCall, call("f")), []int{1}}, {"((f(a)));", stmt(api.StCall, call("f", a)), []int{1}},
		{"print a;", stmt(api.StPrint, a), []int{1}}, {"print -5;", stmt(api.StPrint, number(-5)), []int{1}}, {"return;", stmt(api.StReturn, none), []int{1}}, {"return\n;", stmt(api.StReturn, none), []int{1}}, {"return\n-a;", stmt(api.StReturn, of(api.ExNeg, a)), []int{1}},
		{"atomic { }", stmt(api.StAtomic, none), []int{1}}, {"atomic\n{\nprint a;\n}", stmt(api.StAtomic, none, stmt(api.StPrint, a)), []int{1, 3}},
		{"while a { }", stmt(api.StWhile, a), []int{1}}, {"while (a) { print a; print\nb; print c; }", stmt(api.StWhile, a, stmt(api.StPrint, a), stmt(api.StPrint, b), stmt(api.StPrint, c)), []int{1, 1, 1, 2}},
		{"if a { }", stmt(api.StIf, a), []int{1}}, {"if a { } else { }", stmt(api.StIf, a), []int{1}}, {"if f() { print a; }", stmt(api.StIf, call("f"), stmt(api.StPrint, a)), []int{1, 1}},
		{"if a { print a; } else { print b; print c; }", other, []int{1, 1, 1, 1}}, {"if a {\nprint a; } else\n{ print b;\nprint c; }", other, []int{1, 2, 3, 4}}, {"if a { } else { atomic { } }", only, []int{1, 1}},
	}
	for _, r := range rows {
		testTree(t, "thread {\n"+r.text+"}", thread(r.s), append([]int{0}, r.lines...)...)
		testTree(t, "thread {\n"+r.text+"}\nshared x int;", api.Program{Shared: []api.Field{{Name: "x", Type: whole}}, Threads: [][]api.Stmt{{r.s}}}, append([]int{1 + strings.Count("thread {\n"+r.text, "\n"), 0}, r.lines...)...)
		testTree(t, "func f() {\n"+r.text+"}", api.Program{Funcs: []api.Func{{Name: "f", Body: []api.Stmt{r.s}}}}, append([]int{0}, r.lines...)...)
		testTree(t, "thread { atomic {\n"+r.text+"} }", thread(stmt(api.StAtomic, none, r.s)), append([]int{0, 0}, r.lines...)...)
	}
}

// TestBeginningsOfStatements holds that an expression is gone through to its end, and only what stands behind it is asked.
func TestBeginningsOfStatements(t *testing.T) {
	rows := []struct {
		text string
		line int
	}{
		{"f(1)\n+ 2\n;", 3}, {"f(1)\n= 2;", 2}, {"f(1)\n}", 2}, {"f(1)\n{ }", 2}, {"f(1)\n== a\n= a;", 3}, {"a\n;", 2}, {"a\n}", 2}, {"a\nb;", 2}, {"a.f\n;", 2}, {"a[b]\n;", 2}, {"(a)\n;", 2}, {"(a)\n(b);", 2},
		{"a + b\n= c;", 2}, {"a +\nb\n;", 3}, {"a\n==\nb\n;", 4}, {"5\n= 3;", 2}, {"5\n;", 2}, {"-5\n;", 2}, {"-\na\n= 5;", 3}, {"!a\n= 5;", 2}, {"nil\n= a;", 2}, {"new r\n= a;", 2}, {"new [2]int\n;", 2}, {"(a + b)\n= 1;", 2}, {"-f()\n;", 2},
		{"a + (b\n;", 2}, {"a + (b\n", 2}, {"a\n+\n;", 3}, {"f(1) +\n)", 2}, {"a.f + b\n.5", 2}, {"a = b = c;", 1}, {"a\n", 2}, {"a + b\n", 2}, {"f()\n", 2}, {"a =\n", 2}, {"f();\n", 2}, {"f();\n;", 2}, {"\n=", 2}, {"else\n;", 1}, {"func\n;", 1},
	}
	for _, r := range rows {
		testError(t, "thread {\n"+r.text, r.line, api.ErrSyntax)
		testError(t, "thread {\n"+r.text+" 7 7", r.line, api.ErrSyntax)
	}
}

// TestTheTextEndsEarly holds the end's line: of the last line, whether it is empty or not.
func TestTheTextEndsEarly(t *testing.T) {
	lines := strings.SplitAfter(wholeText, "\n")
	ahead := ""
	for n, s := range lines {
		// Where a thing begins, and behind the last one, a text may end.
		if strings.HasPrefix(s, "thread") || strings.HasPrefix(s, "shared") || strings.HasPrefix(s, "record") || strings.HasPrefix(s, "func") || s == "\n" || n == 0 || n == len(lines)-1 {
			if _, _, line, e := parse.Program(ahead); e != api.OK || line != 0 {
				t.Errorf("%s: the error %d at %d", short(ahead), e, line)
			}
		} else {
			testError(t, ahead, n, api.ErrSyntax)
			testError(t, strings.TrimSuffix(ahead, "\n"), n-1, api.ErrSyntax)
			testError(t, ahead+"// }\n\n \n", n+3, api.ErrSyntax)
			testError(t, ahead+"// }", n, api.ErrSyntax)
		}
		ahead += s
	}
}

// TestSizes holds the N of arrays: what is none is no type, what is too great is one that may not be.
func TestSizes(t *testing.T) {
	for _, text := range []string{
		"shared x #;", "record r { y int;\nx #; }", "func f(y int,\nx #) { }", "func f()\n# { }", "thread {\nvar x #; }", "thread {\nprint new #; }", "thread { a\n= new #; }", "thread { atomic {\n(new #)[0] = 1; } }",
	} {
		sized := func(n string) string { return strings.Replace(text, "#", "["+n+"]int", 1) }
		line := strings.Count(text[:strings.Index(text, "#")], "\n")
		for _, n := range []string{"0", "9223372036854775808", "-1", "x", "", "1, 1"} {
			testError(t, sized(n), line, api.ErrSyntax)
		}
		for _, n := range []string{"1", "2", "64"} {
			testError(t, sized(n), 0, api.OK)
		}
	}
}
