package walk_test

import (
	"fmt"
	"slices"
	"strconv"
	"strings"
	"testing"

	"turnstile/api"
	"turnstile/ir"
	"turnstile/walk"
)

// plenty is more fuel than any run needs of which nothing else is said.
const plenty = 100000

// read answers the graphs of threads' texts, whose lines are parted by bars, one or several; the first line of each is one of its block 0. Each thread has the numbers' registers r0 to r3 and those of references r4 to r7, and nine sites.
func read(t *testing.T, words int, threads ...string) api.Code {
	t.Helper()
	text := "words " + strconv.Itoa(words) + "\n"
	for _, s := range threads {
		text += "thread 8 9 r4 r5 r6 r7\nblock\n" + strings.Join(linesOf(s), "\n") + "\n"
	}
	c, line, e := ir.Parse(text)
	if e != api.OK {
		t.Fatalf("%v: ir finds the error %d at %d: %q", threads, e, line, lineOf(text, line))
	}
	return c
}

func linesOf(s string) []string {
	return strings.FieldsFunc(s, func(r rune) bool { return r == '/' })
}

func lineOf(text string, n int) string {
	l := append(strings.Split(text, "\n"), make([]string, n+1)...)
	return l[n]
}

// number is how a number stands in a text.
func number(n int64) string { return strconv.FormatInt(n, 10) }

// reference is, within a block, a register of references that becomes a number: by way of the word 1. It changes r3 and r7.
func reference(r string, n int64) string {
	return "const r3 " + number(n) + "/shared r7 1/store r3 r7 - 0/load " + r + " r7 - 0/"
}

// picked are the threads whose numbers stand in a text; a star and a number behind one: so many times.
func picked(t *testing.T, text string) (l []int) {
	t.Helper()
	for _, s := range strings.Fields(text) {
		thread, times, many := strings.Cut(s, "*")
		i, err := strconv.Atoi(thread)
		n := 1
		if err == nil && many {
			n, err = strconv.Atoi(times)
		}
		if err != nil {
			t.Fatal(err)
		}
		l = append(l, slices.Repeat([]int{i}, n)...)
	}
	return l
}

// answer is what Run answers.
type answer struct {
	api.Walked
	e api.Errno
}

func run(c api.Code, picks []int, fuel int) (a answer) {
	a.Walked, a.e = walk.Run(c, picks, fuel)
	return a
}

// String tells an answer: of each thread the numbers that it has told, and how it stands, a bar between threads; and what was the run.
func (a answer) String() string {
	if a.e != api.OK {
		if a.Seen != nil || a.Short || a.Strange {
			return "something beside an error"
		}
		return "the error " + strconv.Itoa(int(a.e))
	}
	var l []string
	for _, s := range a.Seen {
		l = append(l, threadText(s))
	}
	text := strings.Join(l, " | ")
	if a.Short {
		text += " short"
	}
	if a.Strange {
		text += " strange"
	}
	return strings.TrimSpace(text)
}

func threadText(s api.Seen) string {
	var l []string
	for _, n := range s.Out {
		l = append(l, number(n))
	}
	return strings.Join(append(l, endText(s.End)), " ")
}

func endText(end api.EndKind) string {
	switch end {
	case api.EndNone:
		return ".."
	case api.EndDone:
		return "done"
	case api.EndZero:
		return "zero"
	case api.EndNil:
		return "nil"
	case api.EndIndex:
		return "index"
	case api.EndMemory:
		return "memory"
	case api.EndFault:
		return "fault"
	}
	return "the end " + strconv.Itoa(int(end))
}

// testRun holds what the threads of graphs tell.
func testRun(t *testing.T, what any, c api.Code, picks []int, fuel int, want string) {
	t.Helper()
	if got := run(c, picks, fuel).String(); got != want {
		t.Errorf("%s: with the picks %s and the fuel %d: %s, not %s", head(what), head(picks), fuel, head(got), head(want))
	}
}

// head is as much of something long as can be read.
func head(of any) string {
	text := fmt.Sprint(of)
	return text[:min(len(text), 700)]
}

// row is picks, and what is told by them.
type row struct{ picks, want string }

// testRows holds what graphs tell by the picks of each row.
func testRows(t *testing.T, c api.Code, rows ...row) {
	t.Helper()
	for _, r := range rows {
		testRun(t, textOf(c), c, picked(t, r.picks), plenty, r.want)
	}
}

// textOf is the text of graphs as it can be read in one line.
func textOf(c api.Code) string {
	s, _ := ir.Text(c)
	return strings.ReplaceAll(s, "\n", "/")
}

// testThread holds what a thread alone tells, from its beginning on, by so many leaps as it takes; it has seven shared words.
func testThread(t *testing.T, text, want string) {
	t.Helper()
	testRows(t, read(t, 7, text), row{"0*40", want})
}

// testInside holds what a block of the language tells.
func testInside(t *testing.T, text, want string) {
	t.Helper()
	testThread(t, "begin/"+text+"/end/halt", want)
}

// blocks is a thread of blocks of the language, one behind the other.
func blocks(l ...string) string {
	var text string
	for _, s := range l {
		text += "begin/" + s + "/end/"
	}
	return text + "halt"
}

// lookWord is a thread that tells the word 1, by a block that does nothing else.
const lookWord = "begin/shared r4 1/load r0 r4 - 0/print r0/end/halt"
