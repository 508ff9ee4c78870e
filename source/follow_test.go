package source_test

import (
	"slices"
	"testing"

	"turnstile/api"
)

// beginsWith says whether what was told is a beginning of what another answer tells: a thread that has ended stands as it did.
func beginsWith(more, first answer) bool {
	for i, s := range first.seen {
		if len(s.Out) > len(more.seen[i].Out) || !slices.Equal(s.Out, more.seen[i].Out[:len(s.Out)]) {
			return false
		}
		if s.End != api.EndNone && (s.End != more.seen[i].End || len(s.Out) != len(more.seen[i].Out)) {
			return false
		}
	}
	return true
}

// testBeginnings holds that what is told behind some first picks is a beginning of what is told behind more.
func testBeginnings(t *testing.T, p api.Program, picks []int) {
	t.Helper()
	before := run(p, nil, 3000)
	for n := range len(picks) {
		next := run(p, picks[:n+1], 3000)
		if next.short {
			return
		}
		if !beginsWith(next, before) {
			t.Fatalf("%s\nwith the picks %v: %v, and ahead of the last one %v", textOf(p), picks[:n+1], next, before)
		}
		before = next
	}
}

// leaps are what is seen at each pick by the chapter's words.
func leaps(p api.Program, picks []int) (l []string) {
	w := meaningOf(p)
	defer w.close()
	for _, i := range picks {
		l = append(l, w.leap(i, 3000))
		if l[len(l)-1] == "short" {
			break
		}
	}
	return l
}

// testLeftOut holds that picks that do nothing may be left out, and that others may be put in.
func testLeftOut(t *testing.T, p api.Program, picks []int, l []string) (left int) {
	t.Helper()
	var some, more []int
	ended := -1
	for n, kind := range l {
		if kind != "nothing" {
			some = append(some, picks[n])
		}
		more = append(more, picks[n], -1-n, len(p.Threads)+n)
		if kind == "end" || kind == "failed block" {
			ended = picks[n]
		}
		more = append(more, ended)
	}
	picks = picks[:len(l)]
	for _, fuel := range []int{2000, 300, 50, 3} {
		want := run(p, picks, fuel)
		testTree(t, textOf(p), p, some, fuel, want.String())
		testTree(t, textOf(p), p, more, fuel, want.String())
	}
	return len(picks) - len(some)
}

// testSwaps holds that two picks of unlike threads, neither of which does an atomic block, may change places.
func testSwaps(t *testing.T, p api.Program, picks []int, l []string) (swapped int) {
	t.Helper()
	if slices.Contains(l, "short") {
		return 0
	}
	picks = slices.Clone(picks)
	want := run(p, picks, 3000)
	block := func(kind string) bool { return kind == "block" || kind == "failed block" }
	for n := 1; n < len(picks); n++ {
		if picks[n-1] == picks[n] || block(l[n-1]) || block(l[n]) {
			continue
		}
		picks[n-1], picks[n] = picks[n], picks[n-1]
		testTree(t, textOf(p), p, picks, 3000, want.String())
		if k := leaps(p, picks); k[n-1] != l[n] || k[n] != l[n-1] {
			t.Fatalf("%s\nwith the picks %v, two of which have changed places at %d: %v, not %v", textOf(p), picks, n, k, l)
		}
		picks[n-1], picks[n] = picks[n], picks[n-1]
		swapped++
	}
	return swapped
}

// testMoreFuel holds that with more fuel nothing is told otherwise, but that a short run may go on.
func testMoreFuel(t *testing.T, p api.Program, picks []int) (wentOn int) {
	t.Helper()
	less := run(p, picks, 1)
	for fuel := 2; fuel < 4000; fuel += 1 + fuel/7 {
		more := run(p, picks, fuel)
		if !beginsWith(more, less) || !less.short && more.String() != less.String() {
			t.Fatalf("%s\nwith the picks %v and the fuel %d: %v, and with less %v", textOf(p), picks, fuel, more, less)
		}
		if less.short && !more.short {
			wentOn++
		}
		less = more
	}
	return wentOn
}

// TestWhatFollows holds P8.2 for programs and picks by chance. (P8.2)
func TestWhatFollows(t *testing.T) {
	c := tally{}
	each(t, 82, 350, func(m *maker, p api.Program) {
		picks := m.picks(len(p.Threads))
		l := leaps(p, picks)
		for _, kind := range l {
			c[kind]++
		}
		testBeginnings(t, p, picks[:len(l)])
		c["left out"] += testLeftOut(t, p, picks, l)
		c["swapped"] += testSwaps(t, p, picks, l)
		c["went on"] += testMoreFuel(t, p, picks)
	})
	c.wants(t, 8, "nothing", "waited", "print", "block", "failed block", "end", "short", "left out", "swapped", "went on")
}

// orders hands on all rows in which each of two threads is picked so many times.
func orders(many int, test func(picks []int)) {
	var grow func(picks []int, left [2]int)
	grow = func(picks []int, left [2]int) {
		if left[0]+left[1] == 0 {
			test(slices.Clone(picks))
		}
		for i := range left {
			if left[i] > 0 {
				next := left
				next[i]--
				grow(append(picks, i), next)
			}
		}
	}
	grow(nil, [2]int{many, many})
}

// TestAllOrders holds what two threads tell in each order of their leaps, against the chapter's words.
func TestAllOrders(t *testing.T) {
	for _, text := range []string{
		"shared n int; thread { print 1; atomic { n = n + 1; print n; } print 2; } thread { atomic { n = n * 2 + 3; print n; } atomic { print n; } }",
		"shared n int; thread { while 1 { atomic { n = n + 1; if n == 4 { print 1 / 0; } print n; } } } thread { print 5; atomic { n = n + 2; } print 6; }",
		"record r { x int; n r; } shared g r; thread { var p r; atomic { p = g; } atomic { if p != nil { print p.x; p.x = 0; } } } thread { atomic { g = new r; g.x = 5; } atomic { g.x = g.x * 2; print g.x; } atomic { print g.n.x; } }",
		"func f(a int) { print a; atomic { s = s + a; print s; } } shared s int; thread { f(1); f(2); } thread { f(10); f(20); }",
	} {
		p := read(t, text)
		told := map[string]int{}
		orders(5, func(picks []int) {
			w := meaningOf(p)
			want := w.run(picks, plenty)
			w.close()
			testTree(t, text, p, picks, plenty, want.String())
			told[want.String()]++
		})
		if len(told) < 3 {
			t.Errorf("%s: %v", text, told)
		}
	}
}

// TestMayChangePlaces holds pairs of picks, written out: what may change places, and blocks, which may not.
func TestMayChangePlaces(t *testing.T) {
	const text = "shared n int; thread { print 1; atomic { n = n + 1; print n; print -n; } print 2; } thread { var i int = 3; print i; atomic { n = n * 10 + 5; print n; print -n; } print 1 / 0; }"
	for _, ahead := range []string{"", "0", "1", "0 1", "0 0 1", "0 1 1", "0 0 0 1 1", "0*5 1*4", "0*4 1*4", "0*5 1*5", "0*6 1*5"} {
		l := leaps(read(t, text), picked(t, ahead+" 0 1"))
		one, other := run(read(t, text), picked(t, ahead+" 0 1"), plenty), run(read(t, text), picked(t, ahead+" 1 0"), plenty)
		if one.String() != other.String() {
			t.Errorf("behind %s: %v, or %v: %v", ahead, one, other, l)
		}
	}
	testRows(t, text, row{"0 1 0 1 0 1", "1 1 .. | 3 15 .."}, row{"0 1 1 0 0 1", "1 6 .. | 3 5 .."})
}
