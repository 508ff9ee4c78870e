package ir_test

import (
	"fmt"
	"strings"
	"testing"

	"turnstile/api"
	"turnstile/ir"
)

// moreThreads are threads of all sorts: such as may be, and such as may not.
func moreThreads() []api.Graph {
	return []api.Graph{
		atOnce(), graph(jump(0)), {}, graph(halt(tell(3))), graph(halt(end())), graph(jump(0, begin())), graph(api.Block{}), {Sites: -1, Blocks: []api.Block{halt()}},
		{Sites: api.MaxIns + 1, Blocks: []api.Block{halt()}}, {Refs: make([]bool, api.MaxRegs+1)}, graph(halt(begin(), made(3, 1, 2), end())),
	}
}

// testMoreThreads holds that threads behind the one that is wrong make no difference: one more, others, one less, none.
func testMoreThreads(t *testing.T, c api.Code) {
	t.Helper()
	f := check(c)
	if f.e == api.OK || len(c.Threads) > api.MaxThreads || f.thread >= len(c.Threads) {
		return
	}
	threads := c.Threads[:len(c.Threads):len(c.Threads)]
	for _, g := range moreThreads() {
		if len(threads) < api.MaxThreads {
			c.Threads = append(threads, g)
			testCheck(t, fmt.Sprintf("one more thread: %+v", c), c, f)
			testUntold(t, fmt.Sprintf("one more thread: %+v", c), c, f.e)
		}
		for n := f.thread + 1; n < len(threads); n++ {
			c.Threads = append([]api.Graph{}, threads...)
			c.Threads[n] = g
			testCheck(t, fmt.Sprintf("another thread: %+v", c), c, f)
		}
	}
	for n := f.thread + 1; n <= len(threads); n++ {
		c.Threads = threads[:n]
		testCheck(t, fmt.Sprintf("the first %d threads: %+v", n, c), c, f)
	}
	// Ahead of the one that is wrong, nothing is.
	if c.Words >= 0 && c.Words <= api.MaxHeap {
		c.Threads = threads[:f.thread]
		testCheck(t, fmt.Sprintf("the threads ahead: %+v", c), c, nothing())
	}
}

// tellable says whether a program's text, be it right or wrong, tells all of it.
func tellable(c api.Code) bool {
	for _, g := range c.Threads {
		for _, b := range g.Blocks {
			for _, i := range b.Ins {
				if back, ok := readIns(insText(i)); !ok || back != i {
					return false
				}
			}
			back := api.Block{Ins: b.Ins}
			if !readLast(lastText(b), &back) || lastText(back) != lastText(b) || back.Reg != b.Reg || back.Yes != b.Yes || back.No != b.No {
				return false
			}
		}
	}
	return true
}

// testMoreInText holds the same for a text of which Check finds something: the line stays.
func testMoreInText(t *testing.T, c api.Code) (tested bool) {
	t.Helper()
	f := check(c)
	if f.e == api.OK || len(c.Threads) >= api.MaxThreads || f.thread >= len(c.Threads) || len(c.Threads[f.thread].Refs) > api.MaxRegs || !tellable(c) {
		return false
	}
	text := textByWords(c)
	_, line, e := ir.Parse(text)
	if e != f.e {
		t.Errorf("%q: the error %d, not %d", bars(text), e, f.e)
	}
	for _, more := range []string{"thread 0 0/block/halt/", "thread 2 1 r0/block/jump 0/", "thread 0 0/", "thread 1 0/block/print r0/begin/halt/block/jump 9/", "thread 0 8193/"} {
		testRefused(t, text+more, line, e)
	}
	c.Threads = c.Threads[:f.thread+1]
	testRefused(t, textByWords(c), line, e)
	return true
}

// testBack holds that Parse of Text is what was told, and what Parse takes Text tells so.
func testBack(t *testing.T, c api.Code) (told bool) {
	t.Helper()
	s, e := ir.Text(c)
	if e != api.OK {
		return false
	}
	back, line, e := ir.Parse(s)
	if e != api.OK || line != 0 || !same(back, c) {
		t.Errorf("%+v: Parse of Text: %+v, the line %d, the error %d", c, back, line, e)
	}
	if again, e := ir.Text(back); e != api.OK || again != s {
		t.Errorf("%q: Text of Parse: %q, the error %d", s, again, e)
	}
	return true
}

// TestWhatFollows holds P9.4 for graphs of each kind. (P9.4)
func TestWhatFollows(t *testing.T) {
	whole, _ := everyKind()
	codes := []api.Code{{}, {Words: 65536}, {Words: 65537}, {Words: -1}, whole}
	for _, g := range moreThreads() {
		codes = append(codes, code(g), code(atOnce(), g), code(g, atOnce()), code(g, g), code(atOnce(), atOnce(), g), code(atOnce(), g, atOnce(), graph(halt(tell(9)))))
	}
	for _, r := range fieldRows() {
		codes = append(codes, code(graph(halt(begin(), r.ins, end()))))
		for _, field := range fieldNames() {
			for _, n := range []int64{-1, 0, 1, 6, 65} {
				if i, room := with(r.ins, field, n); room {
					codes = append(codes, code(graph(jump(1), halt(begin(), i, end())), atOnce()), code(atOnce(), graph(halt(begin(), i, end()), halt(i))))
				}
			}
		}
	}
	told := 0
	for _, c := range codes {
		if testBack(t, c) {
			told++
		}
		testMoreThreads(t, c)
		testMoreInText(t, c)
	}
	if told < 100 || told == len(codes) {
		t.Errorf("%d of %d are told", told, len(codes))
	}
}

// TestWhatFollowsByChance holds it for many programs. (P9.4)
func TestWhatFollowsByChance(t *testing.T) {
	l := tally{}
	someCodes(94, 3000, func(m maker, c api.Code) {
		if testBack(t, c) {
			l["told"]++
		} else {
			l["refused"]++
		}
		testMoreThreads(t, c)
		if testMoreInText(t, c) {
			l["refused as a text"]++
		}
	})
	l.wants(t, 500, "told", "refused", "refused as a text")
}

// TestOneForm holds that unlike graphs have unlike texts, and unlike texts unlike graphs. (P0.7)
func TestOneForm(t *testing.T) {
	codes, texts := map[string]string{}, map[string]string{}
	meet := func(c api.Code, s string) {
		form := fmt.Sprintf("%#v", withoutEmpty(c))
		if had, ok := texts[form]; ok && had != s {
			t.Errorf("%q and %q are of one program", had, s)
		}
		if had, ok := codes[s]; ok && had != form {
			t.Errorf("%q is of two programs", s)
		}
		codes[s], texts[form] = form, s
	}
	someCodes(95, 1500, func(m maker, c api.Code) {
		s, e := ir.Text(c)
		if e != api.OK {
			return
		}
		meet(c, s)
		for range 3 {
			edited := m.editText(s)
			if back, _, e := ir.Parse(edited); e == api.OK {
				meet(back, edited)
				if told, _ := ir.Text(back); told != edited {
					t.Errorf("%q is told as %q", bars(edited), bars(told))
				}
			}
		}
	})
	if len(codes) < 500 || len(codes) != len(texts) {
		t.Errorf("%d texts, %d programs", len(codes), len(texts))
	}
	// Each register, number, operation and end is told.
	for _, pair := range []string{"const r0 1|const r0 2", "const r0 1|const r1 1", "move r0 r1|move r1 r0", "calc add r0 r1 r2|calc sub r0 r1 r2", "calc add r0 r1 r2|calc add r0 r2 r1", "index r0 1|index r0 2", "shared r3 1|shared r3 2", "new r3 1 0|new r3 1 1", "new r3 1 0|new r3 2 0", "load r0 r3 - 0|load r0 r3 r0 0", "load r0 r3 - 0|ownload r0 r3 - 0", "store r0 r3 - 0|store r0 r3 - 1", "store r0 r3 r1 0|store r0 r3 r2 0", "print r0|print r1"} {
		one, other, _ := strings.Cut(pair, "|")
		a, _, e := ir.Parse(lines("words 7/thread 6 3 r3 r4 r5/block/begin/" + one + "/end/halt/"))
		b, _, f := ir.Parse(lines("words 7/thread 6 3 r3 r4 r5/block/begin/" + other + "/end/halt/"))
		if e != api.OK || f != api.OK || same(a, b) {
			t.Errorf("%s: the errors %d and %d, or one program", pair, e, f)
		}
	}
}
