package ir_test

import (
	"fmt"
	"math"
	"slices"
	"strings"
	"testing"

	"turnstile/api"
	"turnstile/ir"
)

// testLine holds how an instruction is told, within a block of the language.
func testLine(t *testing.T, i api.Ins, want string) {
	t.Helper()
	testTold(t, code(graph(halt(begin(), i, end()))), "words 7/thread 6 3 r3 r4 r5/block/begin/"+want+"/end/halt/")
}

// TestLines holds the line of each kind of instruction. (P9.2)
func TestLines(t *testing.T) {
	for n, want := range map[int64]string{0: "0", 1: "1", -1: "-1", 10: "10", 4294967296: "4294967296", math.MaxInt64: "9223372036854775807", math.MinInt64: "-9223372036854775808"} {
		testLine(t, constant(2, n), "const r2 "+want)
	}
	testLine(t, constant(4, 0), "const r4 0")
	testLine(t, move(0, 2), "move r0 r2")
	testLine(t, move(5, 3), "move r5 r3")
	for of, name := range calcNames() {
		testLine(t, calc(api.CalcAdd+api.Calc(of), 2, 0, 1), "calc "+name+" r2 r0 r1")
	}
	testLine(t, calc(api.CalcEq, 0, 4, 3), "calc eq r0 r4 r3")
	testLine(t, calc(api.CalcNe, 1, 5, 5), "calc ne r1 r5 r5")
	testLine(t, isNil(4), "nil r4")
	testLine(t, index(2, 64), "index r2 64")
	testLine(t, index(0, 1), "index r0 1")
	testLine(t, shared(3, 7), "shared r3 7")
	testLine(t, made(5, 10, 0), "new r5 10 0")
	testLine(t, made(3, 1, 2), "new r3 1 2")
	for k, name := range []string{"load", "store", "ownload", "ownstore"} {
		kind := accesses()[k]
		testLine(t, access(kind, 1, 4, 2, 3), name+" r1 r4 r2 3")
		testLine(t, access(kind, 5, 4, 0, 64), name+" r5 r4 r0 64")
		testLine(t, access(kind, 0, 3, -1, 0), name+" r0 r3 - 0")
	}
	testLine(t, tell(2), "print r2")
	testTold(t, code(graph(halt(begin(), end(), begin(), end()))), "words 7/thread 6 3 r3 r4 r5/block/begin/end/begin/end/halt/")
}

// TestThreadsAndEnds holds the lines of threads, blocks and ends. (P9.2)
func TestThreadsAndEnds(t *testing.T) {
	for _, words := range []int{0, 1, 10, 65536} {
		testTold(t, api.Code{Words: words}, fmt.Sprintf("words %d/", words))
	}
	for refs, want := range map[string]string{"": "0 0", "n": "1 0", "r": "1 0 r0", "nn": "2 0", "rr": "2 0 r0 r1", "nr": "2 0 r1", "rn": "2 0 r0", "nrnnr": "5 0 r1 r4", "nnnnnnnnnrr": "11 0 r9 r10"} {
		testTold(t, code(api.Graph{Refs: sorts(refs), Blocks: []api.Block{halt()}}), "words 7/thread "+want+"/block/halt/")
	}
	for _, sites := range []int{0, 1, 64, 8192} {
		testTold(t, code(api.Graph{Sites: sites, Blocks: []api.Block{halt()}}), fmt.Sprintf("words 7/thread 0 %d/block/halt/", sites))
	}
	testTold(t, code(graph(branch(2, 1, 0), jump(2), branch(0, 2, 2), halt())), "words 7/thread 6 3 r3 r4 r5/block/branch r2 1 0/block/jump 2/block/branch r0 2 2/block/halt/")
	testTold(t, code(atOnce(), graph(jump(0, tell(1))), atOnce(), graph(halt(), halt())), "words 7/thread 0 0/block/halt/thread 6 3 r3 r4 r5/block/print r1/jump 0/thread 0 0/block/halt/thread 6 3 r3 r4 r5/block/halt/block/halt/")
	// Each register of a thread that has as many as there may be.
	all := slices.Repeat([]bool{true}, api.MaxRegs)
	want := "words 0/thread 1024 0"
	for r := range all {
		want += fmt.Sprintf(" r%d", r)
	}
	testTold(t, api.Code{Threads: []api.Graph{{Refs: all, Blocks: []api.Block{halt(isNil(1000))}}}}, want+"/block/nil r1000/halt/")
}

// TestTextOfWhatMayNotBe holds that Text answers Check's error. (P9.2)
func TestTextOfWhatMayNotBe(t *testing.T) {
	for what, c := range map[string]api.Code{
		"no block": code(api.Graph{}), "a wrong register": code(graph(halt(tell(3)))), "a wrong side": code(graph(halt(end()))), "both sides": code(graph(jump(0, begin()))), "an end that is none": code(graph(api.Block{})), "too few words": {Words: -1}, "too few sites": code(api.Graph{Sites: -1, Blocks: []api.Block{halt()}}), "another thread": code(atOnce(), graph(halt(begin()))),
	} {
		testUntold(t, what, c, api.ErrGraph)
	}
	for what, c := range map[string]api.Code{
		"too many words": {Words: 65537}, "too many threads": code(atOnce(), atOnce(), atOnce(), atOnce(), atOnce()), "too many registers": code(api.Graph{Refs: make([]bool, 1025), Blocks: []api.Block{halt()}}), "too many sites": code(api.Graph{Sites: 8193, Blocks: []api.Block{halt()}}),
	} {
		testUntold(t, what, c, api.ErrLimit)
	}
}

// sized are graphs whose text has so many bytes: 1000 of them at least.
func sized(size int) (c api.Code, text string) {
	text = "words 7\nthread 1 0\nblock\n"
	var l []api.Ins
	add := func(length int) {
		digits := strings.Repeat("9", length-len("const r0 \n"))
		var n int64
		fmt.Sscan(digits, &n)
		l = append(l, constant(0, n))
		text += "const r0 " + digits + "\n"
	}
	left := size - len(text) - len("halt\n")
	for ; left >= 58; left -= 20 {
		add(20)
	}
	add(left / 2)
	add(left - left/2)
	return code(api.Graph{Refs: sorts("n"), Blocks: []api.Block{halt(l...)}}), text + "halt\n"
}

// TestLongTexts holds how long a text may be that is told, and one that is read. (P9.2, P9.3)
func TestLongTexts(t *testing.T) {
	for _, size := range []int{1000, 4096, 30000, api.MaxText - 2, api.MaxText - 1, api.MaxText} {
		c, text := sized(size)
		if len(text) != size {
			t.Fatalf("%d bytes, not %d", len(text), size)
		}
		testTaken(t, text, c)
	}
	for _, size := range []int{api.MaxText + 1, api.MaxText + 2, api.MaxText + 20, 100000} {
		c, text := sized(size)
		testCheck(t, "a long text", c, nothing())
		testUntold(t, "a long text", c, api.ErrLimit)
		testRefused(t, text, 0, api.ErrLimit)
		// What Check finds is told ahead of that.
		c.Threads = append(c.Threads, api.Graph{})
		testUntold(t, "a long text of graphs that may not be", c, api.ErrGraph)
		c.Threads[1] = graph(halt(begin()))
		testUntold(t, "a long text of graphs that may not be", c, api.ErrGraph)
		c.Words = -1
		testUntold(t, "a long text of graphs that may not be", c, api.ErrGraph)
	}
	full := api.Graph{Refs: slices.Repeat([]bool{true}, api.MaxRegs), Sites: api.MaxIns, Blocks: slices.Repeat([]api.Block{halt(constant(0, 0), constant(1, 0))}, api.MaxBlocks)}
	testUntold(t, "all that there may be", code(full, full, full, full), api.ErrLimit)
	testUntold(t, "many blocks", code(api.Graph{Blocks: slices.Repeat([]api.Block{halt()}, api.MaxBlocks)}, api.Graph{Blocks: slices.Repeat([]api.Block{halt()}, api.MaxBlocks)}), api.ErrLimit)
	// So many blocks and instructions alone are told and come back.
	many := slices.Repeat([]api.Block{halt()}, api.MaxBlocks)
	testTold(t, api.Code{Threads: []api.Graph{{Blocks: many}}}, "words 0/thread 0 0/"+strings.Repeat("block/halt/", api.MaxBlocks))
	turns := api.Graph{Blocks: []api.Block{jump(0, slices.Repeat([]api.Ins{begin(), end()}, api.MaxIns/2)...)}}
	testTold(t, api.Code{Threads: []api.Graph{turns}}, "words 0/thread 0 0/block/"+strings.Repeat("begin/end/", api.MaxIns/2)+"jump 0/")
}

// TestTextsThatAreTooLong holds ErrLimit, at the line 0, of whatever has more than MaxText bytes. (P9.3)
func TestTextsThatAreTooLong(t *testing.T) {
	_, right := sized(api.MaxText)
	for _, text := range []string{right + "\n", right + "block\n", right + "x", "\n" + right, right + right, strings.Repeat("\n", api.MaxText+1), strings.Repeat(" ", api.MaxText+1), strings.Repeat("x\n", api.MaxText), strings.Repeat("\x00", api.MaxText+1), "words 0\nthread 1025 0\n" + strings.Repeat(" ", api.MaxText), strings.Repeat("r", 1<<20)} {
		testRefused(t, text, 0, api.ErrLimit)
	}
	for text, line := range map[string]int{strings.Repeat("\n", api.MaxText): 0, strings.Repeat(" ", api.MaxText): 0, strings.Repeat("x", api.MaxText-1) + "\n": 0, right[:api.MaxText-1]: strings.Count(right, "\n") - 1, right[:api.MaxText-6] + "\n": strings.Count(right, "\n") - 1} {
		testRefused(t, text, line, api.ErrForm)
	}
	if _, _, e := ir.Parse(right); e != api.OK {
		t.Errorf("the error %d", e)
	}
}
