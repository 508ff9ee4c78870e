package ir_test

import (
	"fmt"
	"slices"
	"strings"
	"testing"

	"turnstile/api"
	"turnstile/ir"
)

// testParse holds what Parse answers against the chapter's words.
func testParse(t *testing.T, text string) (line int, e api.Errno) {
	t.Helper()
	want, wantLine, wantErrno := readByWords(text)
	c, line, e := ir.Parse(text)
	if e != wantErrno || line != wantLine || !same(c, want) {
		t.Errorf("%q: Parse: %s, the line %d, the error %d; not %s, %d and %d", head(bars(text)), head(c), line, e, head(want), wantLine, wantErrno)
	}
	if e == api.OK {
		if s, e := ir.Text(c); s != text || e != api.OK {
			t.Errorf("%q: Text: %q and the error %d", head(bars(text)), head(bars(s)), e)
		}
	}
	return line, e
}

// linesOf are the lines of instructions and ends: O is an operation, R a register, C one that may be none, N a number.
func linesOf() []string {
	return []string{"const R N", "move R R", "calc O R R R", "nil R", "index R N", "shared R N", "new R N N", "load R R C N", "store R R C N", "ownload R R C N", "ownstore R R C N", "print R", "begin", "end", "jump N", "branch R N N", "halt"}
}

func rightThings(letter string) []string {
	switch letter {
	case "O":
		return calcNames()
	case "R":
		return []string{"r0", "r1", "r9", "r10", "r99", "r1023", "r1024", "r123456789", "r999999998", "r999999999"}
	case "C":
		return append(rightThings("R"), "-")
	}
	return []string{"0", "1", "-1", "9", "10", "64", "65", "-10", "8192", "999999999", "1000000000", "9999999999", "9223372036854775807", "-9223372036854775808"}
}

func wrongThings(letter string) []string {
	l := []string{"", "x", "r", "R0", "rr0", "r 0", "0r", "r0r", "r0 r0", "r0,", "r00", "r01", "r007", "r-0", "r-1", "r+1", "r0x1", "r1.", "r1e3", "r1_0", "r1000000000", "r1000000001", "r9999999999", "r4294967296", "r9223372036854775807", "r9223372036854775808", "r18446744073709551616", "r\u0660", "r1\u0660", "ŕ1", "r1\x00", "\x00r1", "r1\r", "r1\t", "\tr1", "r\v1",
		"00", "01", "007", "-0", "-00", "-01", "+0", "+1", "--1", "1-", "0x1", "1.0", "1e3", "1_000", "9223372036854775808", "-9223372036854775809", "99999999999999999999", "\u0660", "1\u0660", "1\x00", "1\r", "\r1", "1\t", "\t1", "1,", "0-", "- 1", "-\r", "--", "—", "–", "−1", "none", "nil", "begin", "Add", "ADD", "addd", "ad", "add ", "not", "gt", "ge", "neg", "eqq", "1 ", " 1", "CalcAdd"}
	switch letter {
	case "R", "C":
		l = append(l, "0", "1", "-1", "5", "add", "eq")
	case "N":
		l = append(l, "r0", "r1", "add", "eq")
	case "O":
		l = append(l, "0", "1", "r0", "r1")
	}
	if letter != "C" {
		l = append(l, "-")
	}
	return l
}

// inBlock is a text with a line in a block, which that ends, if it is an end's.
func inBlock(line string) string {
	text := "words 7\nthread 6 3 r3 r4 r5\nblock\nconst r1 1\n" + line + "\n"
	first, _, _ := strings.Cut(line, " ")
	if slices.Contains(lastNames(), first) {
		return text
	}
	return text + "halt\n"
}

func testWrongLine(t *testing.T, line string) {
	t.Helper()
	testRefused(t, inBlock(line), 4, api.ErrForm)
	testRefused(t, inBlock(line)+"halt/", 4, api.ErrForm)
	testRefused(t, "words 7/thread 1 0/block/"+line+"/jump 0/", 3, api.ErrForm)
}

// withThing is a line of a pattern with something in place of the word at that place; what stands behind it may be.
func withThing(pattern string, at int, thing string) string {
	words := strings.Split(pattern, " ")
	for n := range words {
		switch {
		case n == at:
			words[n] = thing
		case n > 0:
			words[n] = rightThings(words[n])[0]
		}
	}
	return strings.Join(words, " ")
}

// TestThings holds what may stand in each place of each line, and what may not. (P9.3)
func TestThings(t *testing.T) {
	for _, pattern := range linesOf() {
		for at, letter := range strings.Split(pattern, " ") {
			if at == 0 {
				continue
			}
			for _, thing := range rightThings(letter) {
				if _, e := testParse(t, inBlock(withThing(pattern, at, thing))); e == api.ErrForm {
					t.Errorf("%s of %s: refused", thing, pattern)
				}
			}
			for _, thing := range wrongThings(letter) {
				testWrongLine(t, withThing(pattern, at, thing))
			}
		}
	}
}

// TestShapesOfLines holds that a line has its words and no others, parted by one blank each. (P9.3)
func TestShapesOfLines(t *testing.T) {
	for _, pattern := range linesOf() {
		right := withThing(pattern, -1, "")
		words := strings.Split(right, " ")
		for n := range words {
			// A word that is left out, one that stands twice, one more.
			less := strings.Join(append(append([]string{}, words[:n]...), words[n+1:]...), " ")
			twice := strings.Join(append(append([]string{}, words[:n+1]...), words[n:]...), " ")
			testWrongLine(t, less)
			testWrongLine(t, twice)
			for _, blank := range []string{"  ", "", "\t", " \t", "\u00a0", "\u2003", ",", ", ", "\v", "\f", "\r"} {
				if n > 0 {
					testWrongLine(t, strings.Join(words[:n], " ")+blank+strings.Join(words[n:], " "))
				}
			}
		}
		for _, more := range []string{" ", "  ", "\t", "\r", "\x00", ";", ".", "#", " #", "x", "0", " 0", " r0", " -", " x", "\u00a0", "\xff", " add", " halt", "\r\r", " \r", "é"} {
			testWrongLine(t, right+more)
		}
		for _, more := range []string{" ", "  ", "\t", "\r", "\x00", "x", "-", "\xff", "\ufeff", "block ", "r0 ", "é", "0 ", "own"} {
			if more+words[0] != "ownload" && more+words[0] != "ownstore" {
				testWrongLine(t, more+right)
			}
		}
		for _, name := range []string{strings.ToUpper(words[0]), strings.ToUpper(words[0][:1]) + words[0][1:], words[0] + "s", words[0][1:], words[0][:len(words[0])-1], words[0] + words[0]} {
			testWrongLine(t, strings.Join(append([]string{name}, words[1:]...), " "))
		}
	}
	for _, line := range []string{"", " ", "r0", "0", "-", "#", "# x", "none", "none 0", "add r0 r0 r0", "calc", "calc neg r0 r0", "words 7", "words 0", "thread 1 0", "thread 6 3 r3", "block", "block 1", "words", "thread", "init", "note r0", "ownnew r0 1 0", "load", "\xff\xfe", "\x00", "goto 1", "jump", "branch r0", "halt 0", "end end", "begin begin"} {
		testWrongLine(t, line)
	}
}

// TestWordsLines holds what the line 0 may be. (P9.3)
func TestWordsLines(t *testing.T) {
	for _, n := range []int{0, 1, 9, 10, 64, 65535, 65536} {
		testTaken(t, fmt.Sprintf("words %d/", n), api.Code{Words: n})
	}
	for _, n := range []string{"65537", "99999", "1000000000", "4294967296", "9223372036854775807"} {
		testRefused(t, "words "+n+"/", 0, api.ErrLimit)
	}
	for _, n := range []string{"-1", "-7", "-65537", "-9223372036854775808"} {
		testRefused(t, "words "+n+"/", 0, api.ErrGraph)
	}
	for _, thing := range wrongThings("N") {
		testRefused(t, "words "+thing+"/", 0, api.ErrForm)
		testRefused(t, "words "+thing+"/thread 0 0/block/halt/", 0, api.ErrForm)
	}
	for _, line := range []string{"", " ", "words", "words ", "word 0", "wordss 0", "Words 0", "WORDS 0", "words  0", " words 0", "words 0 ", "words 0 0", "words 0\r", "words\t0", "words0", "words r0", "words 0 r0", "thread 0 0", "thread 1025 0", "thread 1025 0 x", "thread 99999 0 r5 r4", "block", "begin", "end", "halt", "jump 0", "const r0 0", "print r0", "\ufeffwords 0", "\x00words 0", "\xff", "words 0;", "# words 0"} {
		for _, rest := range []string{"", "thread 0 0/block/halt/", "x/", "words 0/", "thread 1025 0/"} {
			testRefused(t, line+"/"+rest, 0, api.ErrForm)
		}
		testRefused(t, line, 0, api.ErrForm)
	}
}

// testThreadLine holds what Parse answers of a thread's line, whether it stands behind the first line, a thread's, or a block's end, and whatever stands behind it.
func testThreadLine(t *testing.T, line string, e api.Errno) {
	t.Helper()
	for ahead, at := range map[string]int{"words 0/": 1, "words 99999/": 1, "words -1/": 1, "words 0/thread 0 0/": 2, "words 0/thread 0 0/block/halt/": 4, "words 0/thread 0 0/thread 2 -5/block/begin/halt/": 6, "words 0/" + strings.Repeat("thread 0 0/", 10): 11} {
		for _, rest := range []string{"", "block/halt/", "block/", "x/", "x", "thread 1025 0/", "words 0/", "/"} {
			testRefused(t, ahead+line+"/"+rest, at, e)
		}
		testRefused(t, ahead+line, at, api.ErrForm)
	}
	for ahead, at := range map[string]int{"": 0, "words 0/thread 1 0/block/": 3, "words 0/thread 1 0/block/print r0/": 4, "x/": 0, "words 0/block/": 1, "words 0/thread 0 0/block/halt/halt/": 4, "words 0//": 1, "words 0/thread 1 0 r1/": 1, "words 0/thread 1 0/block/const r0 01/": 3} {
		testRefused(t, ahead+line+"/block/halt/", at, api.ErrForm)
	}
}

// TestThreadLines holds what a thread's line may be. (P9.3)
func TestThreadLines(t *testing.T) {
	for refs, want := range map[string]string{"": "0 0", "n": "1 0", "r": "1 0 r0", "nr": "2 0 r1", "rn": "2 0 r0", "rr": "2 0 r0 r1", "nrnrnn": "6 0 r1 r3"} {
		testTaken(t, "words 0/thread "+want+"/block/halt/", api.Code{Threads: []api.Graph{{Refs: sorts(refs), Blocks: []api.Block{halt()}}}})
	}
	for _, line := range []string{
		"thread", "thread ", "thread 1", "thread 1 ", "thread 1  0", "thread  1 0", " thread 1 0", "thread 1 0 ", "thread 1 0  r0", "thread 1 0 r0 ", "thread 1\t0", "thread 1 0\r", "thread 1 0 r0\r", "thread 1 0 r0\t", "thread1 0", "thread 1,0", "Thread 1 0", "THREAD 1 0", "threads 1 0", "thred 1 0", "thread 1 0 x", "thread 1 0 0", "thread 1 0 -", "thread 1 0 r", "thread 1 0 R0", "thread 1 0 r00", "thread 1 0 r-0", "thread 1 0 r+0", "thread 1 0 r0,", "thread 1 0 r0r0", "thread 1 0 #", "thread r0", "thread 1 r0", "thread r1 0", "thread r1 0 r0", "thread - 0", "thread 1 -", "thread x 0", "thread 1 x",
		// Registers that do not rise, that stand twice, that there are not.
		"thread 2 0 r1 r0", "thread 3 0 r0 r2 r1", "thread 3 0 r2 r0 r1", "thread 2 0 r0 r0", "thread 2 0 r1 r1", "thread 3 0 r0 r1 r1", "thread 3 0 r0 r1 r0", "thread 0 0 r0", "thread 1 0 r1", "thread 2 0 r2", "thread 2 0 r0 r1 r2", "thread 2 0 r0 r5", "thread 2 0 r-1", "thread 1024 0 r1024", "thread 1024 0 r1023 r1024", "thread 2 0 r999999999", "thread 2 0 r1000000000", "thread 2 0 r4294967296", "thread 2 0 r4294967297", "thread 2 0 r18446744073709551616", "thread 2 0 r18446744073709551617",
		// R is from 0 on.
		"thread -1 0", "thread -1 0 r0", "thread -2 5", "thread -1025 0", "thread -1025 0 x", "thread -9223372036854775808 0", "thread -9223372036854775808 0 r0",
	} {
		testThreadLine(t, line, api.ErrForm)
	}
	for _, thing := range wrongThings("N") {
		if !strings.HasPrefix(thing, " ") && !strings.HasSuffix(thing, " ") {
			testThreadLine(t, "thread "+thing+" 0", api.ErrForm)
			testThreadLine(t, "thread 1 "+thing, api.ErrForm)
			testThreadLine(t, "thread 2 "+thing+" r0", api.ErrForm)
		}
	}
}

// TestTooManyRegisters holds ErrLimit of a thread's line with more than MaxRegs, whatever stands behind its two numbers. (P9.3)
func TestTooManyRegisters(t *testing.T) {
	for _, many := range []string{"1025", "1026", "2000", "99999", "1000000000", "4294967296", "4294967297", "9223372036854775807"} {
		for _, sites := range []string{"0", "1", "-1", "8192", "8193", "9223372036854775807", "-9223372036854775808"} {
			testThreadLine(t, "thread "+many+" "+sites, api.ErrLimit)
		}
		for _, rest := range []string{" x", " r0", " r1024", " r1025", " r1 r0", " r0 r0", " 0", " rubbish and more of it", " thread 1 0", " r", " -", " \xff\x00", "  r0", " #", " r999999999", " r1000000000", strings.Repeat(" r0", 2000)} {
			testThreadLine(t, "thread "+many+" 0"+rest, api.ErrLimit)
		}
		for _, line := range []string{"thread " + many, "thread " + many + " ", "thread " + many + " x", "thread " + many + " r0", "thread " + many + " 00", "thread " + many + " +0", "thread " + many + " -0", "thread " + many + " - 0", "thread  " + many + " 0", "thread " + many + "  0", "thread 0" + many + " 0", "thread +" + many + " 0", "thread -" + many + " 0", " thread " + many + " 0", "threads " + many + " 0", "Thread " + many + " 0", "thread r" + many + " 0", "thread " + many + " 9223372036854775808", "thread x " + many, "thread 0 r" + many} {
			testThreadLine(t, line, api.ErrForm)
		}
	}
	for _, many := range []string{"9223372036854775808", "18446744073709551616", "99999999999999999999999"} {
		testThreadLine(t, "thread "+many+" 0", api.ErrForm)
		testThreadLine(t, "thread "+many+" 0 x", api.ErrForm)
	}
	testTaken(t, "words 0/thread 1024 0 r1023/block/halt/", api.Code{Threads: []api.Graph{{Refs: append(make([]bool, 1023), true), Blocks: []api.Block{halt()}}}})
	// The first line that may not stand where it stands is told, by whichever error.
	testRefused(t, "words 0/thread 1025 0/x/", 1, api.ErrLimit)
	testRefused(t, "words 0/x/thread 1025 0/", 1, api.ErrForm)
	testRefused(t, "words 0/thread 1 1/block/begin/thread 1025 0/", 4, api.ErrForm)
	testRefused(t, "words 0/thread 1 1/block/begin/halt/thread 1025 0/block/", 5, api.ErrLimit)
	testRefused(t, "words 0/thread 0 0/thread 0 0/thread 0 0/thread 0 0/thread 0 0/thread 1025 0", 6, api.ErrForm)
}

// TestWhereLinesStand holds which line may stand behind which, for all rows of lines of each sort. (P9.3)
func TestWhereLinesStand(t *testing.T) {
	pool := []string{"words 0", "thread 1 0", "block", "print r0", "halt", "", "thread 1025 0 x"}
	told := map[api.Errno]int{}
	var grow func(text string, more int)
	grow = func(text string, more int) {
		for _, last := range []string{"", "h", "halt", "block", "words 0", "thread 1 0", " "} {
			_, e := testParse(t, text+last)
			told[e]++
		}
		if more == 0 {
			return
		}
		for _, line := range pool {
			grow(text+line+"\n", more-1)
		}
	}
	for ahead, more := range map[string]int{"": 4, "words 0\n": 4, "words 0\nthread 1 0\nblock\nhalt\n": 4, "words 0\nthread 0 0\n": 3, "words 0\nthread 1 0\nblock\nprint r0\n": 4} {
		grow(ahead, more)
	}
	for _, e := range []api.Errno{api.OK, api.ErrForm, api.ErrLimit, api.ErrGraph} {
		if told[e] < 20 {
			t.Errorf("the error %d: %d times", e, told[e])
		}
	}
}

// TestTextsThatEnd holds texts without a line, without a last line feed, and such as end in a block. (P9.3)
func TestTextsThatEnd(t *testing.T) {
	const text = "words 1/thread 2 0 r1/block/begin/shared r1 1/const r0 5/store r0 r1 - 0/end/halt/block/halt/thread 0 0/block/halt/"
	for n := range len(text) {
		cut := text[:n]
		line := strings.Count(cut, "/")
		open := strings.HasSuffix(cut, "block/") || line > 2 && line < 9
		switch {
		case n == 0 || cut[n-1] != '/' || open:
			testRefused(t, cut, line, api.ErrForm)
		case strings.HasSuffix(cut, "r1/"):
			testRefused(t, cut, 1, api.ErrGraph)
		case strings.HasSuffix(cut, "0 0/"):
			testRefused(t, cut, 11, api.ErrGraph)
		default:
			if _, _, e := ir.Parse(lines(cut)); e != api.OK {
				t.Errorf("%q: the error %d", cut, e)
			}
		}
	}
	for _, cut := range []string{"x", " ", "0", "words", "words 0", "thread 1025 0", "\r", "\x00"} {
		testRefused(t, cut, 0, api.ErrForm)
		testRefused(t, "words 0/"+cut, 1, api.ErrForm)
		testRefused(t, "words 0/thread 0 0/block/halt/"+cut, 4, api.ErrForm)
		testRefused(t, "words 99999/thread 0 0/block/begin/halt/"+cut, 5, api.ErrForm)
	}
	testRefused(t, "words 0/thread 0 0/block/", 3, api.ErrForm)
	testRefused(t, "words 0/thread 0 0/block/jump 5/block/begin/", 6, api.ErrForm)
	testRefused(t, "words -1/thread 0 -1/block/", 3, api.ErrForm)
	testRefused(t, "/", 0, api.ErrForm)
	testRefused(t, "//", 0, api.ErrForm)
	testRefused(t, "words 0//", 1, api.ErrForm)
	testRefused(t, "words 0/\r/", 1, api.ErrForm)
}

// TestLinesOfPlaces holds the line that is told with what Check finds. (P9.3)
func TestLinesOfPlaces(t *testing.T) {
	const right = "words 3/thread 2 1 r1/block/begin/shared r1 2/load r0 r1 - 0/end/branch r0 1 0/block/halt/block/jump 2/thread 0 0/block/halt/"
	parts := strings.Split(strings.TrimSuffix(right, "/"), "/")
	for _, row := range []struct {
		line int
		text string
		want int
	}{
		// An instruction; an end.
		{3, "print r1", 3}, {4, "shared r1 4", 4}, {5, "load r2 r1 - 0", 5}, {5, "load r0 r1 r1 0", 5}, {5, "load r0 r1 - 65", 5}, {6, "new r1 1 1", 6}, {7, "branch r1 1 0", 7}, {7, "branch r0 3 0", 7}, {7, "branch r0 0 -1", 7}, {9, "jump 3", 9}, {11, "jump -1", 11}, {14, "jump 1", 14},
		// A wrong side: an instruction, an end; what stands behind it.
		{3, "const r0 5", 5}, {6, "const r0 5", 3}, {4, "begin", 4}, {5, "end", 6}, {3, "end", 3}, {6, "begin", 3},
		// A thread's faults, at its first instruction or end.
		{1, "thread 2 -1 r1", 3}, {1, "thread 2 8193 r1", 3}, {12, "thread 0 -1", 14}, {12, "thread 1024 9000 r5", 14},
		// Faults of the whole, at the first instruction of the first thread.
		{0, "words 65537", 3}, {0, "words -1", 3},
	} {
		l := append([]string{}, parts...)
		l[row.line] = row.text
		text := strings.Join(l, "/") + "/"
		_, _, e := readByWords(lines(text))
		testRefused(t, text, row.want, e)
	}
	testRefused(t, "words 0/thread 0 0/block/halt/block/jump 2/", 5, api.ErrGraph)
	testRefused(t, "words 0/thread 0 1/block/begin/new r0 1 0/end/halt/", 4, api.ErrGraph)
	testRefused(t, "words 0/thread 1 1 r0/block/begin/new r0 1 0/end/jump 1/block/begin/new r0 1 0/end/halt/", 9, api.ErrGraph)
	testRefused(t, "words 0/thread 1 0/block/branch r0 1 2/block/begin/jump 3/block/jump 3/block/end/halt/", 10, api.ErrGraph)
	testRefused(t, "words 0/thread 1 0/block/branch r0 1 2/block/begin/jump 3/block/jump 3/block/halt/", 10, api.ErrGraph)
	// Of a thread without a block, its own line.
	testRefused(t, "words 0/thread 0 0/", 1, api.ErrGraph)
	testRefused(t, "words 0/thread 0 0/thread 0 0/block/halt/", 1, api.ErrGraph)
	testRefused(t, "words 0/thread 0 0/block/halt/thread 0 0/", 4, api.ErrGraph)
	testRefused(t, "words 0/thread 0 8193/", 1, api.ErrLimit)
	testRefused(t, "words 0/thread 0 0/block/halt/thread 5 8193 r3/thread 0 0/", 4, api.ErrLimit)
	testRefused(t, "words 65537/thread 0 0/", 1, api.ErrLimit)
	testRefused(t, "words -1/thread 0 0/", 1, api.ErrGraph)
	testRefused(t, "words 0/"+strings.Repeat("thread 0 0/", 5), 1, api.ErrLimit)
	testRefused(t, "words 0/"+strings.Repeat("thread 0 0/block/halt/", 5), 3, api.ErrLimit)
	testRefused(t, "words -1/"+strings.Repeat("thread 0 0/block/begin/halt/", 5), 3, api.ErrLimit)
	testTaken(t, "words 0/"+strings.Repeat("thread 0 0/block/halt/", 4), api.Code{Threads: []api.Graph{atOnce(), atOnce(), atOnce(), atOnce()}})
	// Limits of instructions and blocks.
	testRefused(t, "words 0/thread 0 0/block/"+strings.Repeat("begin/end/", api.MaxIns/2)+"begin/jump 0/", 3, api.ErrLimit)
	testRefused(t, "words 0/thread 0 0/block/halt/thread 0 0/"+strings.Repeat("block/halt/", api.MaxBlocks+1), 6, api.ErrLimit)
	// Of no thread, the first line.
	testRefused(t, "words 65537/", 0, api.ErrLimit)
	testRefused(t, "words -1/", 0, api.ErrGraph)
}
