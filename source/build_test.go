package source_test

import (
	"fmt"
	"slices"
	"strconv"
	"strings"
	"testing"

	"turnstile/api"
	"turnstile/effect"
	"turnstile/parse"
	"turnstile/source"
)

// plenty is more fuel than any run needs of which nothing else is said.
const plenty = 100000

// parsed answers a text's tree, whatever may be wrong with it.
func parsed(t *testing.T, text string) api.Program {
	t.Helper()
	p, _, line, e := parse.Program(text)
	if e != api.OK {
		t.Fatalf("%s: parse finds the error %d at %d", text, e, line)
	}
	return p
}

// read answers the tree of a text whose program is right.
func read(t *testing.T, text string) api.Program {
	t.Helper()
	p := parsed(t, text)
	if place, e := effect.Check(p); e != api.OK {
		t.Fatalf("%s: effect finds the error %d at %d", text, e, place)
	}
	return p
}

// picked are the threads whose numbers stand in a text; a star and a number behind one: so many times.
func picked(t *testing.T, text string) (l []int) {
	t.Helper()
	for _, s := range strings.Fields(text) {
		thread, times, many := strings.Cut(s, "*")
		i, err := strconv.Atoi(thread)
		n := 1
		if err == nil && many {
			n, err = strconv.Atoi(times)
		}
		if err != nil {
			t.Fatal(err)
		}
		l = append(l, slices.Repeat([]int{i}, n)...)
	}
	return l
}

// answer is what Run answers.
type answer struct {
	seen  []api.Seen
	short bool
	e     api.Errno
}

func run(p api.Program, picks []int, fuel int) (a answer) {
	a.seen, a.short, a.e = source.Run(p, picks, fuel)
	return a
}

// String tells an answer: of each thread the numbers it has told, and how it stands, a bar between threads; and whether the run was short.
func (a answer) String() string {
	if a.e != api.OK {
		if a.seen != nil || a.short {
			return "something beside an error"
		}
		return "the error " + strconv.Itoa(int(a.e))
	}
	var l []string
	for _, s := range a.seen {
		l = append(l, threadText(s))
	}
	text := strings.Join(l, " | ")
	if a.short {
		text = strings.TrimSpace(text + " short")
	}
	return text
}

func threadText(s api.Seen) string {
	var l []string
	for _, n := range s.Out {
		l = append(l, strconv.FormatInt(n, 10))
	}
	return strings.Join(append(l, endText(s.End)), " ")
}

func endText(end api.EndKind) string {
	switch end {
	case api.EndNone:
		return ".."
	case api.EndDone:
		return "done"
	case api.EndZero:
		return "zero"
	case api.EndNil:
		return "nil"
	case api.EndIndex:
		return "index"
	}
	return "the end " + strconv.Itoa(int(end))
}

// testTree holds what a tree's threads tell.
func testTree(t *testing.T, what any, p api.Program, picks []int, fuel int, want string) {
	t.Helper()
	if got := run(p, picks, fuel).String(); got != want {
		t.Errorf("%s: with the picks %s and the fuel %d: %s, not %s", tail(what), head(picks), fuel, head(got), head(want))
	}
}

// head is as much of something long as can be read.
func head(of any) string {
	text := fmt.Sprint(of)
	return text[:min(len(text), 200)]
}

// tail is the end of something long: what stands ahead of it in a text, others have too.
func tail(of any) string {
	text := fmt.Sprint(of)
	return text[max(0, len(text)-300):]
}

// testTold holds what a text's threads tell by these picks.
func testTold(t *testing.T, text, picks, want string) {
	t.Helper()
	testTree(t, text, read(t, text), picked(t, picks), plenty, want)
}

// row is picks, and what is told by them.
type row struct{ picks, want string }

func testRows(t *testing.T, text string, rows ...row) {
	t.Helper()
	for _, r := range rows {
		testTold(t, text, r.picks, r.want)
	}
}

// things are what the parts of the tests are about. What touches keeps in order what it was called with: each number is a digit more of log.
const things = `record r { x int; n r; a [2]int; l [2]r; } record q { y int; x int; }
	shared log int; shared s int; shared g r; shared none r; shared e [4]int; shared noarray [4]int; shared l [3]r; shared h q;
	func say(a int) int { log = log * 10 + a; return a; }
	func ref(a int) r { say(a); return g; } func noref(a int) r { say(a); return nil; }
	func arr(a int) [4]int { say(a); return e; } func noarr(a int) [4]int { say(a); return nil; }
	func three(a int, b int, c int) int { return a * 100 + b * 10 + c; }
	func swap() int { g = g.n; return 5; } func bump() int { s = s + 1; return s; }
	func fail(a int) { s = 9; print 5; three(1, 1 % a, 2); }
	func begin() { g = new r; g.x = 7; e = new [4]int; e[0] = 10; e[1] = 11; e[2] = 12; e[3] = 13; l = new [3]r; l[1] = g; h = new q; h.x = 8; h.y = 9; } `

// testBlock holds what a block tells, behind one in which all things were made: by so many leaps as it takes.
func testBlock(t *testing.T, block, want string) {
	t.Helper()
	testTree(t, block, read(t, things+"thread { atomic { begin(); } atomic { "+block+" } }"), picked(t, "0*40"), plenty, want)
}
