package lower_test

import (
	"fmt"
	"math"
	"reflect"
	"slices"
	"strconv"
	"strings"
	"testing"
	"time"

	"turnstile/api"
	"turnstile/effect"
	"turnstile/ir"
	"turnstile/lower"
	"turnstile/parse"
	"turnstile/shape"
	"turnstile/source"
	"turnstile/walk"
)

// parsed answers a text's tree, whatever may be wrong with it.
func parsed(t *testing.T, text string) api.Program {
	t.Helper()
	p, _, line, e := parse.Program(text)
	if e != api.OK {
		t.Fatalf("%s: parse finds the error %d at %d", head(text), e, line)
	}
	return p
}

// read answers the tree of a text whose program is right.
func read(t *testing.T, text string) api.Program {
	t.Helper()
	p := parsed(t, text)
	if place, e := effect.Check(p); e != api.OK {
		t.Fatalf("%s: effect finds the error %d at %d", text, e, place)
	}
	return p
}

// head is as much of something long as can be read.
func head(of any) string {
	text := fmt.Sprint(of)
	return text[:min(len(text), 400)]
}

// tail is the end of something long: what stands ahead of it in a text, others have too.
func tail(of any) string {
	text := fmt.Sprint(of)
	return text[max(0, len(text)-700):]
}

// lowered answers the graphs of a right program, of which there are some, and of which P11.2 is held.
func lowered(t *testing.T, what any, p api.Program) api.Code {
	t.Helper()
	c, e := lower.Lower(p)
	if e != api.OK {
		t.Fatalf("%s: the error %d", tail(what), e)
	}
	testMayBe(t, what, p, c)
	return c
}

// testMayBe holds P11.2, but for where shared variables lie.
func testMayBe(t *testing.T, what any, p api.Program, c api.Code) {
	t.Helper()
	if thread, at, e := ir.Check(c); e != api.OK {
		t.Fatalf("%s: ir finds the error %d in the thread %d at %v", tail(what), e, thread, at)
	}
	if words, e := shape.Words(p); e != api.OK || c.Words != words {
		t.Errorf("%s: %d words, not %d (error %d)", tail(what), c.Words, words, e)
	}
	if len(c.Threads) != len(p.Threads) {
		t.Fatalf("%s: %d threads, not %d", tail(what), len(c.Threads), len(p.Threads))
	}
	for _, i := range allIns(c) {
		if i.Kind == api.InOwnLoad || i.Kind == api.InOwnStore {
			t.Errorf("%s: an own load or store: %v", tail(what), i)
		}
	}
}

func allIns(c api.Code) (l []api.Ins) {
	for _, g := range c.Threads {
		for _, b := range g.Blocks {
			l = append(l, b.Ins...)
		}
	}
	return l
}

// soon is what a call answers, which is to end, and soon.
func soon(t *testing.T, what any, p api.Program) (c api.Code, e api.Errno) {
	t.Helper()
	ended := make(chan struct{})
	go func() {
		c, e = lower.Lower(p)
		close(ended)
	}()
	select {
	case <-ended:
	case <-time.After(time.Minute):
		t.Fatalf("%s: it goes on for ever", tail(what))
	}
	return c, e
}

// testRefused holds that an error is answered, with nothing beside it.
func testRefused(t *testing.T, what any, p api.Program, want api.Errno) {
	t.Helper()
	c, e := soon(t, what, p)
	if e != want {
		t.Errorf("%s: the error %d, not %d", tail(what), e, want)
	}
	if !reflect.DeepEqual(c, api.Code{}) {
		t.Errorf("%s: beside the error %d: %s", tail(what), e, head(c))
	}
}

// told is what threads have told, and how they stand, a bar between threads; and whether the run was short.
func told(seen []api.Seen, short bool) string {
	var l []string
	for _, s := range seen {
		var one []string
		for _, n := range s.Out {
			one = append(one, strconv.FormatInt(n, 10))
		}
		l = append(l, strings.Join(append(one, endText(s.End)), " "))
	}
	text := strings.Join(l, " | ")
	if short {
		text = strings.TrimSpace(text + " short")
	}
	return text
}

func endText(end api.EndKind) string {
	switch end {
	case api.EndNone:
		return ".."
	case api.EndDone:
		return "done"
	case api.EndZero:
		return "zero"
	case api.EndNil:
		return "nil"
	case api.EndIndex:
		return "index"
	case api.EndMemory:
		return "memory"
	}
	return "the end " + strconv.Itoa(int(end))
}

// said is what the language says.
func said(t *testing.T, p api.Program, picks []int, fuel int) string {
	t.Helper()
	l, short, e := source.Run(p, picks, fuel)
	if e != api.OK {
		t.Fatalf("source answers the error %d", e)
	}
	return told(l, short)
}

// done is what graphs do.
func done(t *testing.T, c api.Code, picks []int) string {
	t.Helper()
	w, e := walk.Run(c, picks, api.MaxFuel)
	if e != api.OK {
		t.Fatalf("walk answers the error %d", e)
	}
	if w.Strange {
		t.Error("a run is strange")
	}
	return told(w.Seen, w.Short)
}

// testSame holds P11.3 for a program and its graphs, by these picks: neither run may be short. What was told is answered.
func testSame(t *testing.T, what any, p api.Program, c api.Code, picks []int) string {
	t.Helper()
	got, want := done(t, c, picks), said(t, p, picks, api.MaxFuel)
	if got != want || strings.Contains(got, "short") {
		t.Fatalf("%s: with the picks %s: %s, not %s", tail(what), head(picks), head(got), head(want))
	}
	return got
}

// picked are the threads whose numbers stand in a text; a star and a number behind one: so many times.
func picked(t *testing.T, text string) (l []int) {
	t.Helper()
	for _, s := range strings.Fields(text) {
		thread, times, many := strings.Cut(s, "*")
		i, err := strconv.Atoi(thread)
		n := 1
		if err == nil && many {
			n, err = strconv.Atoi(times)
		}
		if err != nil {
			t.Fatal(err)
		}
		l = append(l, slices.Repeat([]int{i}, n)...)
	}
	return l
}

// testTold holds what a text's threads tell by these picks: by the language and by the graphs.
func testTold(t *testing.T, text, picks, want string) {
	t.Helper()
	p := read(t, text)
	if got := testSame(t, text, p, lowered(t, text, p), picked(t, picks)); got != want {
		t.Errorf("%s: with the picks %s: %s, not %s", tail(text), picks, got, want)
	}
}

// row is picks, and what is told by them.
type row struct{ picks, want string }

func testRows(t *testing.T, text string, rows ...row) {
	t.Helper()
	for _, r := range rows {
		testTold(t, text, r.picks, r.want)
	}
}

// manyPicks are rows of picks of all sorts, of so many threads: none, those of one thread, threads that take turns, picks that are no thread's, far more than there is to do.
func manyPicks(threads int) (l [][]int) {
	l = [][]int{nil, {}, {-1}, {threads}, {math.MinInt, math.MaxInt, -1, threads, 1 << 32}}
	for i := range threads {
		for _, n := range []int{1, 2, 3, 5, 9, 200} {
			l = append(l, slices.Repeat([]int{i}, n))
		}
	}
	for _, turn := range []int{1, 2, 3, 7} {
		var up, down, strangers []int
		for n := range 60 * threads {
			i := n / turn % threads
			up, down = append(up, i), append(down, threads-1-i)
			strangers = append(strangers, -1-n, i, threads+n, i-threads)
		}
		l = append(l, up, down, strangers, up[:len(up)/3], down[:len(down)/5], append(slices.Clone(up[:7*threads]), down...))
	}
	var far []int
	for n := range 5000 {
		far = append(far, n*n/3%(threads+1))
	}
	return append(l, far)
}

// testAll holds P11.3 for a text's program and picks of all sorts.
func testAll(t *testing.T, text string) {
	t.Helper()
	p := read(t, text)
	c := lowered(t, text, p)
	for _, picks := range manyPicks(len(p.Threads)) {
		testSame(t, text, p, c, picks)
	}
}

// things are what the parts of the tests are about. What touches keeps in order what it was called with: each number is a digit more of log.
const things = `record r { x int; n r; a [2]int; l [2]r; } record q { y int; x int; }
	shared log int; shared s int; shared g r; shared none r; shared e [4]int; shared noarray [4]int; shared l [3]r; shared h q;
	func say(a int) int { log = log * 10 + a; return a; }
	func ref(a int) r { say(a); return g; } func noref(a int) r { say(a); return nil; }
	func arr(a int) [4]int { say(a); return e; } func noarr(a int) [4]int { say(a); return nil; }
	func three(a int, b int, c int) int { return a * 100 + b * 10 + c; }
	func swap() int { g = g.n; return 5; } func swap2() int { g.n = new r; return g.x; } func bump() int { s = s + 1; return s; }
	func fail(a int) { s = 9; print 5; three(1, 1 % a, 2); }
	func begin() { g = new r; g.x = 7; e = new [4]int; e[0] = 10; e[1] = 11; e[2] = 12; e[3] = 13; l = new [3]r; l[1] = g; h = new q; h.x = 8; h.y = 9; } `

// testBlock holds what a block tells, behind one in which all things were made: by so many leaps as it takes.
func testBlock(t *testing.T, block, want string) {
	t.Helper()
	testTold(t, things+"thread { atomic { begin(); } atomic { "+block+" } }", "0*40", want)
}

func numeral(n int64) api.Expr { return api.Expr{Kind: api.ExNumber, N: n} }

func of(k api.ExprKind, args ...api.Expr) api.Expr { return api.Expr{Kind: k, Args: args} }

// printing is a program of one thread that prints an expression.
func printing(x api.Expr) api.Program {
	return api.Program{Threads: [][]api.Stmt{{{Kind: api.StPrint, X: x}}}}
}
