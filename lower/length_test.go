package lower_test

import (
	"fmt"
	"reflect"
	"sort"
	"strconv"
	"strings"
	"testing"

	"turnstile/api"
	"turnstile/show"
)

// surely is the length up to which a thread's list never is too great.
const surely = 128

// ruler tells how long lists are, by the chapter's words; what is longer than far is far long.
type ruler struct {
	api.Program
	// bodies are the lengths of the functions whose lists were gone through.
	bodies map[string]int
}

const far = 1 << 30

func rulerOf(p api.Program) ruler { return ruler{p, map[string]int{}} }

func (r ruler) list(l []api.Stmt) (n int) {
	for _, s := range l {
		n += 1 + r.expr(s.X) + r.expr(s.Y) + r.list(s.Body) + r.list(s.Else)
	}
	return min(n, far)
}

func (r ruler) expr(x api.Expr) int {
	if x.Kind == api.ExNone {
		return 0
	}
	n := 1
	for _, a := range x.Args {
		n += r.expr(a)
	}
	if x.Kind == api.ExCall {
		n += r.body(x.Name)
	}
	return min(n, far)
}

func (r ruler) body(name string) int {
	if _, ok := r.bodies[name]; !ok {
		for _, f := range r.Funcs {
			if f.Name == name {
				r.bodies[name] = r.list(f.Body)
			}
		}
	}
	return r.bodies[name]
}

// longest is the length of the longest list of a thread.
func longest(p api.Program) (n int) {
	r := rulerOf(p)
	for _, l := range p.Threads {
		n = max(n, r.list(l))
	}
	return n
}

// TestRuler holds the ruler itself, by lengths that are written out.
func TestRuler(t *testing.T) {
	for text, want := range map[string]int{
		"": 0, "thread { }": 0, "thread { print 1; }": 2, "thread { print 1 + 2; }": 4, "thread { var x int; }": 1, "thread { var x int = -(1); x = x; }": 6, "thread { atomic { } }": 1, "thread { if 1 { print 1; } else { atomic { } } while 0 { } }": 7, "thread { } thread { print !1; }": 3,
		"func f() { } thread { f(); }": 2, "func f() int { return 1; } thread { f(); print f(); }": 4 + 4, "func f(a int) int { return a; } thread { print f(f(1)); }": 8, "func f() { g(); g(); } func g() { print 1; } thread { f(); }": 10, "func f() { print 1; }": 0,
		"record r { x int; } shared g r; thread { atomic { g = new r; g.x = 5; } }": 8, "shared e [2]int; thread { atomic { e[1] = e[0]; } }": 8,
	} {
		if got := longest(read(t, text)); got != want {
			t.Errorf("%s: the length %d, not %d", text, got, want)
		}
	}
	if got := longest(read(t, doubling(4)+"thread { f0(); }")); got != 2+2*(2+2*(2+2*2)) {
		t.Errorf("doubled: %d", got)
	}
}

// parts are functions and shared variables of which rows of length 128 are made.
const parts = `record r { x int; n r; a [2]int; l [2]r; } shared n int; shared m int; shared g r; shared e [4]int; shared l [3]r;
	func none() { } func back() { return; } func zero() int { } func null() r { } func one() int { return 1; } func id(a int) int { return a; } func ref(a r) r { return a; }
	func many(a int, b int, c int, d int, e0 int, f int, g0 int, h int, i int, j int, k int, l0 int, m0 int, n0 int, o int, p int) int { }
	func pick(a int) int { if a { return 1; } else { return 2; } } func away(a int) { while a { if a { return; } } } func turn(a int) int { while 1 { if a { return a; } a = a + 1; } }
	func open() { atomic { n = n; } } func tell(a int) { print a; } func get() int { return n; } func set(a int) { n = a; } func made() r { return new r; } `

// anywhere are statements that may stand within a block and outside; # is a number of its own.
func anywhere() []string {
	return []string{
		"var v# int;", "var v# int = 1;", "var v# r;", "var v# r = nil;", "var v# [64]int; var w# [1]r = nil;", "var v# int; v# = v#;", "var v# int = 1; v# = v# + v# * v#;", "print 1;", "print -1;", "print -(1);", "print !1;", "print !!!!!!!!!!!!!!!1;", "print -----(1);", "print 1 + 2;", "print 1 && 2;", "print 0 || 0;", "print 1 && (0 || 1 && (0 || 1));", "print nil == nil;", "print 1 < 2;", "print 1 >= 2;",
		"if 1 { }", "if 1 { if 0 { } }", "if 1 { } else { print 1; }", "if 1 { print 1; } else { if 0 { print 2; } }", "while 0 { }", "while 0 { while 0 { } }", "while 0 { print 1; }", "while 0 && 1 { if 1 || 0 { } }", "if 1 { var v# int; } else { var v# r; }",
		"none();", "back();", "zero();", "null();", "one();", "id(1);", "ref(nil);", "print zero();", "print one();", "print id(id(id(id(id(id(1))))));", "print null() == nil;", "print ref(ref(nil)) == nil;", "many(1, 1, 1, 1, 1, 1, 1, 1, 1, 1, 1, 1, 1, 1, 1, 1);", "print many(1, 2, 3, 4, 5, 6, 7, 8, 9, 10, 11, 12, 13, 14, 15, zero());", "pick(1);", "print pick(0) + pick(1);", "away(0);", "away(1);", "print turn(0);", "turn(1);", "tell(1);", "tell(id(2));", "print 1 && one() || zero() && pick(id(1));",
		"if zero() { none(); } else { back(); }", "while zero() { back(); }", "var v# int = 3; while v# { v# = v# - 1; }",
	}
}

func outside() []string {
	l := append(anywhere(), "atomic { }", "while 0 { atomic { } }", "open();", "if 1 { open(); }", "atomic { print n; }")
	for _, one := range anywhere() {
		l = append(l, "atomic { "+one+" }")
	}
	return l
}

func within() []string {
	return append(anywhere(), "n = 1;", "n = n;", "n = m + n * m;", "print n;", "print n && m;", "print !n;", "g = g;", "g = new r;", "print g == g;", "print n == m;", "e = new [4]int;", "l = new [3]r; l[0] = new r;", "var v# r = new r; v#.x = 1; v#.n = v#; v#.n.n.n.x = v#.n.n.x;", "var v# [2]int = new [2]int; v#[0] = 1; v#[v#[1]] = v#[v#[0]];", "e = new [4]int; e[n] = e[n] + e[m];", "print new r.x;", "print new [64]int[63];", "print new r == new r;",
		"get();", "print get() + get();", "set(get());", "set(n);", "many(n, n, n, n, n, n, n, n, n, n, n, n, n, n, n, n);", "made();", "print made().x;", "made().x = n;", "g = made(); g.n = made(); g.n.x = g.x;", "g = new r; g.l = new [2]r; g.l[0] = g; g.l[0].l[0].l[0].x = 1;", "while n < 3 { n = n + 1; if n == 2 { print n; } else { print m; } } n = 0;")
}

func repeated(unit string, many int) (text string) {
	for i := range many {
		text += strings.ReplaceAll(unit, "#", strconv.Itoa(i)) + " "
	}
	return text
}

// testJustSurely holds that a program is not too great whose one thread's list has the length 128, exactly: as much as goes in of what is made, and in place of a $ as many statements of the length 1 as are wanting.
func testJustSurely(t *testing.T, what string, made func(many int) string, pad string) {
	t.Helper()
	with := func(many, pads int) api.Program {
		return read(t, strings.Replace(made(many), "$", repeated(pad, pads), 1))
	}
	fits := func(many int) bool { return longest(with(many, 0)) <= surely }
	most := 1
	for most < surely && fits(most) {
		most *= 2
	}
	many := sort.Search(most, func(n int) bool { return !fits(n + 1) })
	p := with(many, surely-longest(with(many, 0)))
	if n := longest(p); n != surely || many == 0 {
		t.Fatalf("%s: %d times, the length %d", what, many, n)
	}
	s, _ := show.Program(p)
	testSame(t, s, p, lowered(t, s, p), []int{0, 0, 0, 0, 0, 0, 0, 0, 0, 0, 0, 0})
}

// TestRowsAreNotTooGreat holds lists of length 128 of statements one behind the other. (P11.1)
func TestRowsAreNotTooGreat(t *testing.T) {
	rows := func(begin, end string, units []string, pads ...string) {
		for _, unit := range units {
			for _, pad := range pads {
				testJustSurely(t, unit, func(many int) string { return parts + begin + repeated(unit, many) + "$" + end }, pad)
			}
		}
	}
	rows("thread { ", " }", outside(), "var p# int;", "atomic { }")
	rows("func whole() { ", " } thread { whole(); }", outside(), "var p# r;", "return;")
	rows("thread { var a int = 1; while a { a = 0; ", " } }", outside(), "atomic { }")
	rows("thread { atomic { ", " } }", within(), "var p# int;", "var p# [3]r;")
	rows("func whole(a int) { ", " } thread { atomic { whole(n); } }", within(), "var p# int;")
	rows("thread { while 1 { atomic { ", " } } }", within(), "var p# [2]int;")
	returns := []string{"return 1;", "if a { return 1; }", "if 0 { return 1; } else { return 2; }", "while a < 9 { return n; }", "if 0 { return a; } a = n;", "while 1 { a = a + 1; if a == 9 { return a; } }"}
	rows("func whole(a int) int { ", " } thread { atomic { print whole(0); } }", returns, "var p# r;")
	rows("func whole(a int) int { ", " } thread { atomic { n = whole(5); print n; } }", returns, "var p# r;")
}

// testDeep takes a statement that is deep, as often as it goes in; if it does at all.
func testDeep(t *testing.T, one string) {
	t.Helper()
	if longest(read(t, parts+"thread { atomic { "+repeated(one, 1)+" } }")) <= surely {
		testJustSurely(t, one, func(many int) string { return parts + "thread { atomic { " + repeated(one, many) + "$ } }" }, "var p# int;")
	}
}

// TestDeepIsNotTooGreat holds lists of length 128 of expressions and lists that are deep. (P11.1)
func TestDeepIsNotTooGreat(t *testing.T) {
	for _, around := range [][2]string{
		{"-(", ")"}, {"!(", ")"}, {"1 + (", ")"}, {"(", ") + 1"}, {"1 && (", ")"}, {"0 || (", ")"}, {"(", ") && 1"}, {"(", ") || 0"}, {"(0 || 1) && (", ")"}, {"0 == (", ")"}, {"2 > (", ")"}, {"id(", ")"}, {"many(1, 2, 3, 4, 5, 6, 7, 8, 9, 10, 11, 12, 13, 14, ", ", 16)"}, {"pick(", ")"}, {"turn(", ")"}, {"n + (", ")"}, {"n && (", ")"}, {"(", ") * (n - m)"}, {"new [64]int[", "]"}, {"(new r == nil) + (", ")"},
	} {
		for _, deep := range []int{1, 2, 5, 9, api.MaxNest - 3} {
			testDeep(t, "print "+strings.Repeat(around[0], deep)+"1"+strings.Repeat(around[1], deep)+";")
		}
	}
	for _, around := range [][2]string{
		{"if 1 { ", " }"}, {"if 0 { } else { ", " }"}, {"if 0 { print 1; } else { ", " print 2; }"}, {"while 0 { ", " }"}, {"var v# int = 2; while v# { v# = v# - 1; ", " }"}, {"if n { ", " }"}, {"if n && m { ", " } else { n = n; }"}, {"if pick(id(0)) { ", " back(); }"},
	} {
		for _, deep := range []int{1, 2, 5, 9, api.MaxNest - 2} {
			one := ""
			for i := range deep {
				one = strings.ReplaceAll(around[0], "v#", "v"+strconv.Itoa(i)+"_#") + one + around[1]
			}
			testDeep(t, one)
		}
	}
	// Both parts of a sum, of each part of it too: and so on.
	for _, sign := range []string{"+", "-", "*", "==", "<", ">=", "&&", "||"} {
		for _, leaf := range []string{"1", "n", "id(1)", "zero()", "!n", "new r.x"} {
			one := leaf
			for range 4 {
				one = "(" + one + ") " + sign + " (" + one + ")"
			}
			testDeep(t, "print "+one+";")
		}
	}
}

// TestCallsAreNotTooGreat holds lists of length 128 of calls within calls. (P11.1)
func TestCallsAreNotTooGreat(t *testing.T) {
	calls := func(sort, last, thread string, all ...string) {
		for _, each := range all {
			testJustSurely(t, each+" / "+last, func(many int) string {
				return "shared n int; " + chain(many, sort, each, last) + "thread { atomic { " + thread + " $ } }"
			}, "var p# int;")
		}
	}
	for _, last := range []string{"", "n = n;", "print 1;", "return;", "if n { return; } print n;", "while 0 { }", "n = 1; return; n = 2;", "var v int = n; v = v + 1; print v;"} {
		calls("()", last, "f0();", "@();", "@(); @();", "@(); @(); @();", "if 1 { @(); } else { @(); }", "var i int = 1; while i { i = i - 1; @(); }", "@(); return; @();", "if n { return; } @(); @();")
	}
	for _, last := range []string{"", "return a;", "return a + n;", "if a { return 1; } return 2;", "while 1 { return a; }", "n = a;"} {
		calls("(a int) int", last, "print f0(3);", "return @(a);", "return @(a) + @(n);", "return @(@(a));", "return @(a) && @(1) || a;", "if @(a) { return @(1); }", "var v int = @(a); return v;", "while 0 { a = @(a); }", "return @(@(@(1)));")
	}
}

// TestSurelyOfEachThread holds that it is each thread's own list whose length is told: four of length 128 are not too great.
func TestSurelyOfEachThread(t *testing.T) {
	const none = "func none() { } "
	text := none
	for _, unit := range []string{"none();", "atomic { }", "print 1;", "while 0 { }"} {
		many := surely / longest(read(t, none+"thread { "+unit+" }"))
		text += "thread { " + repeated(unit, many) + " }"
	}
	p := read(t, text)
	r := rulerOf(p)
	for i, l := range p.Threads {
		if n := r.list(l); n != surely {
			t.Errorf("the thread %d: the length %d", i, n)
		}
	}
	testAll(t, text)
}

// TestWhatIsNotCalled holds that functions which no thread calls may be ever so great. (P11.1)
func TestWhatIsNotCalled(t *testing.T) {
	testTold(t, doubling(32)+"thread { f31(); print 1; }", "0 0", "1 done")
	testTold(t, doubling(32)+"thread { }", "0 0", "done")
}

// TestFarBeyond holds that of what is far longer there are graphs that do the same, or ErrLimit, and that this is said soon. (P11.1)
func TestFarBeyond(t *testing.T) {
	limits, graphs := 0, 0
	for _, last := range []string{"", "print 1;", "return;", "atomic { n = n + 1; }", "var a [64]int;"} {
		for _, each := range []string{"@(); @();", "@(); @(); @(); @(); @();", "if 1 { @(); } else { @(); @(); }", "while 0 { @(); @(); }", "@(); return; @(); @();", "if 0 { @(); @(); @(); }", "return; @(); @();", "@();", "@(); print 1; @();"} {
			for _, many := range []int{2, 4, 6, 8, 10, 12, 14, 17, 24, 31, 32} {
				for _, thread := range []string{"f0();", "f0(); print 7;", "print 7; f0(); f0(); f0();", "while 0 { f0(); }"} {
					text := "shared n int; " + chain(many, "()", each, last) + "thread { " + thread + " }"
					p := read(t, text)
					c, e := soon(t, text, p)
					switch {
					case e == api.OK:
						graphs++
						testMayBe(t, text, p, c)
					case e != api.ErrLimit || longest(p) <= surely || !reflect.DeepEqual(c, api.Code{}):
						t.Errorf("%s: the error %d, %v", text, e, head(c))
					default:
						limits++
					}
				}
			}
		}
	}
	if limits < 200 || graphs < 200 {
		t.Errorf("%d are too great, %d are not", limits, graphs)
	}
}

// TestEachLimit holds programs of which more and more is made till there would be too many registers, instructions, blocks, or statements and expressions of which nothing is made: graphs that may be, and from some number on ErrLimit. (P11.1)
func TestEachLimit(t *testing.T) {
	for what, row := range map[string]struct {
		sort, each, first, unit string
		size                    func(g api.Graph) int
	}{
		"registers":    {"()", "@(); @();", "f0();", "print 1;", func(g api.Graph) int { return len(g.Refs) * 8 }},
		"references":   {"()", "@(); @();", "f0();", "var v# [2]int;", func(g api.Graph) int { return len(g.Refs) * 8 }},
		"things":       {"()", "@(); @();", "f0();", "new0();", func(g api.Graph) int { return len(g.Refs) * 8 }},
		"instructions": {"(a int)", "@(a); @(a);", "f0(1);", "n = a;", func(g api.Graph) int { return len(allIns(api.Code{Threads: []api.Graph{g}})) }},
		"prints":       {"(a int)", "@(a); @(a);", "f0(1);", "print a; a = a; n = a;", func(g api.Graph) int { return len(allIns(api.Code{Threads: []api.Graph{g}})) }},
		"choices":      {"(a int)", "@(a); @(a);", "f0(1);", "if a { }", func(g api.Graph) int { return len(g.Blocks) * 2 }},
		"loops":        {"(a int)", "@(a); @(a);", "f0(0);", "while a { }", func(g api.Graph) int { return len(g.Blocks) * 2 }},
		"returns":      {"(a int)", "@(a); @(a);", "f0(0);", "if a { return; }", func(g api.Graph) int { return len(g.Blocks) * 2 }},
	} {
		graphs, limits, greatest := 0, 0, 0
		for many := 1; many <= 16; many++ {
			for _, units := range []int{10, 40, 60, 80, 100} {
				text := "record r { x int; } shared n int; func new0() r { return new r; } " + chain(many, row.sort, row.each, repeated(row.unit, units)) + "thread { atomic { " + row.first + " } }"
				p := read(t, text)
				c, e := soon(t, text, p)
				switch {
				case e == api.OK:
					graphs++
					testMayBe(t, text, p, c)
					greatest = max(greatest, row.size(c.Threads[0]))
					testSame(t, text, p, c, []int{0, 0, 0, 0})
				case e != api.ErrLimit || longest(p) <= surely || !reflect.DeepEqual(c, api.Code{}):
					t.Errorf("%s: the error %d, %v", text, e, head(c))
				default:
					limits++
				}
			}
		}
		// As much as makes it likely that the next step was too great for this very thing.
		if graphs < 10 || limits < 10 || greatest < api.MaxIns*2/3 {
			t.Errorf("%s: %d are graphs, %d are too great; of 8192 the greatest has %d", what, graphs, limits, greatest)
		}
	}
}

// TestGreatTrees holds trees that have as much in them as there may be, without a call, and with calls in all of them. (P11.1)
func TestGreatTrees(t *testing.T) {
	for _, unit := range append(outside(), "atomic { n = 1; }", "many(id(1), id(2), id(3), 4, 5, 6, 7, 8, 9, 10, 11, 12, 13, 14, 15, id(16));", "print pick(pick(pick(pick(pick(pick(pick(1)))))));") {
		none, one := show.Items(parsed(t, parts)), show.Items(parsed(t, parts+"thread { "+repeated(unit, 1)+" }"))
		p := read(t, parts+"thread { "+repeated(unit, (api.MaxItems-none)/(one-none))+" }")
		c, e := soon(t, unit, p)
		if e == api.OK {
			testMayBe(t, unit, p, c)
			testSame(t, unit, p, c, []int{0, 0, 0, 0, 0, 0, 0, 0, 0, 0})
		} else if e != api.ErrLimit || !reflect.DeepEqual(c, api.Code{}) {
			t.Errorf("%s: the error %d, %v", unit, e, head(c))
		}
	}
}

// TestOneThreadIsTooGreat holds ErrLimit of a program of which one thread alone is too great, wherever it stands.
func TestOneThreadIsTooGreat(t *testing.T) {
	for i := range api.MaxThreads {
		text := doubling(32)
		for j := range api.MaxThreads {
			thread := fmt.Sprint("thread { print ", j, "; } ")
			if i == j {
				thread = "thread { f0(); } "
			}
			text += thread
		}
		testRefused(t, text, read(t, text), api.ErrLimit)
	}
}
