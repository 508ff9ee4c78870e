package walk_test

import (
	"slices"
	"testing"

	"turnstile/api"
)

// beginsWith says whether what was told is a beginning of what another answer tells: a thread that has ended stands as it did.
func beginsWith(more, first answer) bool {
	for i, s := range first.Seen {
		if len(s.Out) > len(more.Seen[i].Out) || !slices.Equal(s.Out, more.Seen[i].Out[:len(s.Out)]) {
			return false
		}
		if s.End != api.EndNone && (s.End != more.Seen[i].End || len(s.Out) != len(more.Seen[i].Out)) {
			return false
		}
	}
	return more.Strange || !first.Strange
}

// leaps are what each pick does by the chapter's words, up to the first one that is not made.
func leaps(c api.Code, picks []int, fuel int) (l []string) {
	m := meaningOf(c, fuel)
	for _, i := range picks {
		l = append(l, m.leap(i))
		if l[len(l)-1] == "short" {
			break
		}
	}
	return l
}

// testBeginnings holds that what is told behind some first picks is a beginning of what is told behind more.
func testBeginnings(t *testing.T, c api.Code, picks []int, fuel int) {
	t.Helper()
	all := run(c, picks, fuel)
	before := run(c, nil, fuel)
	for n := range len(picks) {
		next := run(c, picks[:n+1], fuel)
		if !beginsWith(next, before) || !beginsWith(all, next) {
			t.Fatalf("%s\nwith the picks %v: %v, ahead of the last one %v, and of all %v", textOf(c), picks[:n+1], next, before, all)
		}
		before = next
	}
	if before.String() != all.String() {
		t.Fatalf("%s\nwith the picks %v: %v, and once more %v", textOf(c), picks, before, all)
	}
}

// testPlain holds that a run tells the same whose own loads and stores are plain ones, and is not strange.
func testPlain(t *testing.T, c api.Code, picks []int, fuel int) {
	t.Helper()
	want := run(c, picks, fuel)
	want.Strange = false
	testRun(t, textOf(c), plain(c), picks, fuel, want.String())
}

// plain is a copy in which all own loads and stores are plain ones.
func plain(c api.Code) api.Code {
	c = copied(c)
	for _, g := range c.Threads {
		for _, b := range g.Blocks {
			for k, i := range b.Ins {
				switch i.Kind {
				case api.InOwnLoad:
					b.Ins[k].Kind = api.InLoad
				case api.InOwnStore:
					b.Ins[k].Kind = api.InStore
				}
			}
		}
	}
	return c
}

// owned is a copy in which all loads and stores are own ones.
func owned(c api.Code) api.Code {
	c = copied(c)
	for _, g := range c.Threads {
		for _, b := range g.Blocks {
			for k, i := range b.Ins {
				switch i.Kind {
				case api.InLoad:
					b.Ins[k].Kind = api.InOwnLoad
				case api.InStore:
					b.Ins[k].Kind = api.InOwnStore
				}
			}
		}
	}
	return c
}

// testLeftOut holds that picks that do nothing may be left out, and that others may be put in.
func testLeftOut(t *testing.T, c api.Code, picks []int, fuel int) (left int) {
	t.Helper()
	var some, more []int
	ended := -1
	l := leaps(c, picks, fuel)
	for n, what := range l {
		if what != "nothing" {
			some = append(some, picks[n])
		}
		more = append(more, picks[n], -1-n, len(c.Threads)+n)
		if what == "end" || what == "failed" || what == "failed block" {
			ended = picks[n]
		}
		more = append(more, ended)
	}
	want := run(c, picks, fuel).String()
	testRun(t, textOf(c), c, some, fuel, want)
	testRun(t, textOf(c), c, more, fuel, want)
	return len(l) - len(some)
}

// testMoreFuel holds that with more fuel nothing is told otherwise, but that a short run may go on.
func testMoreFuel(t *testing.T, c api.Code, picks []int) (wentOn int) {
	t.Helper()
	less := run(c, picks, 1)
	for fuel := 2; fuel < 3000; fuel += 1 + fuel/5 {
		more := run(c, picks, fuel)
		if !beginsWith(more, less) || !less.Short && more.String() != less.String() {
			t.Fatalf("%s\nwith the picks %v and the fuel %d: %v, and with less %v", textOf(c), picks, fuel, more, less)
		}
		if less.Short && !more.Short {
			wentOn++
		}
		less = more
	}
	return wentOn
}

// TestWhatFollows holds P10.2 for graphs and picks by chance, and what else follows of the chapter's words. (P10.2)
func TestWhatFollows(t *testing.T) {
	c := tally{}
	each(t, 102, 1500, func(m maker, code api.Code) {
		code.Words = min(code.Words, 9)
		picks := m.picks(len(code.Threads))
		for _, what := range leaps(code, picks, 3000) {
			c[what]++
		}
		for _, fuel := range []int{3000, m.fuel()} {
			testBeginnings(t, code, picks, fuel)
			for _, of := range []api.Code{code, owned(code)} {
				testPlain(t, of, picks, fuel)
				if run(of, picks, fuel).Strange {
					c["strange"]++
				}
			}
			c["left out"] += testLeftOut(t, code, picks, fuel)
		}
		c["went on"] += testMoreFuel(t, code, picks)
	})
	c.wants(t, 100, "nothing", "waited", "print", "block", "failed block", "failed", "end", "short", "strange", "left out", "went on")
}

// TestPlainIsTheSame holds written-out runs against the same ones with plain loads and stores. (P10.2)
func TestPlainIsTheSame(t *testing.T) {
	for _, text := range []string{
		"begin/shared r4 1/ownload r0 r4 - 0/print r0/const r1 1/calc add r0 r0 r1/ownstore r0 r4 - 0/end/jump 0",
		"begin/new r4 2 0/ownstore r4 r4 - 1/ownload r5 r4 - 1/calc eq r0 r4 r5/print r0/shared r6 1/store r5 r6 - 0/end/begin/ownload r5 r4 - 1/nil r5/print r0/end/halt",
		"begin/ownload r0 r4 - 0/end/halt", "begin/shared r4 1/ownstore r0 r4 - 3/end/halt", "begin/const r0 5/shared r4 1/ownstore r0 r4 - 0/nil r5/end/halt",
	} {
		for _, c := range []api.Code{read(t, 3, text), read(t, 3, text, lookWord), read(t, 3, text, text)} {
			for _, picks := range []string{"", "0", "0*9", "0 1 0 1 0 1", "1 1 0 0 1 0", "0 0 0 1 1 1 0 1"} {
				for _, fuel := range []int{1, 3, 7, 12, plenty} {
					testPlain(t, c, picked(t, picks), fuel)
				}
			}
		}
	}
}

// orders hands on all rows in which each of two threads is picked so many times.
func orders(many int, test func(picks []int)) {
	var grow func(picks []int, left [2]int)
	grow = func(picks []int, left [2]int) {
		if left[0]+left[1] == 0 {
			test(slices.Clone(picks))
		}
		for i := range left {
			if left[i] > 0 {
				next := left
				next[i]--
				grow(append(picks, i), next)
			}
		}
	}
	grow(nil, [2]int{many, many})
}

// TestAllOrders holds what two threads tell in each order of their leaps, against the chapter's words. (P10.1)
func TestAllOrders(t *testing.T) {
	const adds = "shared r4 1/load r0 r4 - 0/const r1 1/calc add r0 r0 r1/store r0 r4 - 0/print r0"
	for _, threads := range [][]string{
		{"print r2/" + blocks(adds, adds), blocks(adds) + "/block/halt"},
		{"begin/" + adds + "/end/const r2 6/calc div r2 r2 r0/print r2/jump 0", "begin/" + adds + "/const r2 4/index r0 4/end/jump 0"},
		{blocks("new r5 2 0/const r0 5/store r0 r5 - 1/shared r4 2/store r5 r4 - 0", "shared r4 2/load r5 r4 - 0/nil r5/load r0 r5 - 1/print r0"), blocks("shared r4 2/load r6 r4 - 0", "ownload r0 r6 - 1/print r0/const r1 7/ownstore r1 r6 - 1/const r5 0/store r5 r4 - 0")},
		{blocks("new r5 2 0/"+numberOf("r5"), "new r5 2 1/"+numberOf("r5")+"nil r6"), blocks("new r5 1 0/"+numberOf("r5"), "new r5 1 1/"+numberOf("r5"))},
	} {
		c := read(t, 3, threads...)
		told := map[string]int{}
		orders(5, func(picks []int) {
			want := meaningOf(c, plenty).run(picks).String()
			testRun(t, textOf(c), c, picks, plenty, want)
			told[want]++
		})
		if len(told) < 3 {
			t.Errorf("%s: %v", textOf(c), told)
		}
	}
}
