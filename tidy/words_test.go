package tidy_test

import (
	"reflect"
	"slices"
	"testing"

	"turnstile/api"
	"turnstile/flow"
	"turnstile/ir"
	"turnstile/live"
	"turnstile/tidy"
	"turnstile/walk"
)

// testAll holds all promises of a program of graphs, with picks of all its threads in several orders.
func testAll(t *testing.T, c api.Code) {
	t.Helper()
	less := tidied(t, c)
	testOne(t, c, less)
	testNoMore(t, c, less)
	testIsTidy(t, less)
	var inTurn, byThrees []int
	for range 12 {
		for i := range c.Threads {
			inTurn = append(inTurn, i)
			byThrees = append(byThrees, picked(i, 3)...)
		}
	}
	slices.Reverse(byThrees)
	for _, picks := range [][]int{nil, {0}, {0, 0}, {0, 0, 0}, inTurn, byThrees} {
		testSame(t, c, less, picks)
	}
}

// testOne holds that a program always becomes the same. (P14.1)
func testOne(t *testing.T, c, less api.Code) {
	t.Helper()
	if again := tidied(t, copied(c)); !reflect.DeepEqual(again, less) {
		t.Errorf("%s\nbecomes %s\nand then %s", tellAll(c), tellAll(less), tellAll(again))
	}
}

// testNoMore holds P14.2.
func testNoMore(t *testing.T, c, less api.Code) {
	t.Helper()
	if thread, at, e := ir.Check(less); e != api.OK {
		t.Fatalf("%s\nbecomes one in which ir finds the error %d at %d, %v: %+v", tellAll(c), e, thread, at, less)
	}
	if less.Words != c.Words || len(less.Threads) != len(c.Threads) {
		t.Fatalf("%s\nbecomes %s", tellAll(c), tellAll(less))
	}
	for i, g := range less.Threads {
		was := c.Threads[i]
		if !slices.Equal(g.Refs, was.Refs) || g.Sites != was.Sites {
			t.Errorf("%s\nthe registers and sites %v, %d become %v, %d", tell(was), was.Refs, was.Sites, g.Refs, g.Sites)
		}
		if len(g.Blocks) > len(was.Blocks) || len(instructions(g)) > len(instructions(was)) {
			t.Errorf("%s\nbecomes more: %s", tell(was), tell(g))
		}
		if is, e := flow.Reach(g); e != api.OK || slices.Contains(is, false) {
			t.Errorf("%s\nbecomes one of which not all is reached: %s: %v, %d", tell(was), tell(g), is, e)
		}
	}
}

// testSame holds P14.3 with as many of the picks as there is fuel for, with just the fuel that is needed and with more. It answers what the program was.
func testSame(t *testing.T, c, less api.Code, picks []int) api.Walked {
	t.Helper()
	return testSameBy(t, c, less, picks, plenty)
}

func testSameBy(t *testing.T, c, less api.Code, picks []int, most int) api.Walked {
	t.Helper()
	picks, least := enough(t, c, picks, most)
	want := run(t, c, picks, least)
	for _, fuel := range []int{least, min(least+1, most), most} {
		got := run(t, less, picks, fuel)
		if got.Short || !reflect.DeepEqual(got.Seen, want.Seen) {
			t.Fatalf("%s\nwith the picks %v and the fuel %d: %+v\n%s\n%+v", tellAll(c), picks, fuel, want, tellAll(less), got)
		}
		if got.Strange != want.Strange {
			t.Fatalf("%s\nwith the picks %v: strange: %v\n%s\n%v", tellAll(c), picks, want.Strange, tellAll(less), got.Strange)
		}
	}
	return want
}

// enough are as many of the picks as there is fuel for, and the least fuel that does for them.
func enough(t *testing.T, c api.Code, picks []int, most int) ([]int, int) {
	t.Helper()
	short := func(many, fuel int) bool { return run(t, c, picks[:many], fuel).Short }
	many := lastThat(0, len(picks), func(n int) bool { return !short(n, most) })
	few := lastThat(0, most-1, func(fuel int) bool { return fuel == 0 || short(many, fuel) })
	return picks[:many], few + 1
}

// lastThat is the greatest number of which something is true, which is so of the first one and of all up to that.
func lastThat(from, to int, is func(int) bool) int {
	for from < to {
		if n := (from + to + 1) / 2; is(n) {
			from = n
		} else {
			to = n - 1
		}
	}
	return from
}

// testIsTidy holds P14.4 of what was answered.
func testIsTidy(t *testing.T, less api.Code) {
	t.Helper()
	again, e := tidy.Tidy(less)
	if e != api.OK || len(again.Threads) != len(less.Threads) {
		t.Fatalf("%s\nbecomes %s and the error %d", tellAll(less), tellAll(again), e)
	}
	for i, g := range less.Threads {
		if a := again.Threads[i]; len(a.Blocks) != len(g.Blocks) || len(instructions(a)) != len(instructions(g)) {
			t.Errorf("%s\nbecomes %s", tell(g), tell(a))
		}
		for _, b := range g.Blocks {
			testEnd(t, g, b)
		}
		for _, s := range someOf(constants(g)) {
			r := g.Blocks[s.Block].Ins[s.Ins].A
			l, e := live.At(g, api.Spot{Block: s.Block, Ins: s.Ins + 1})
			if e != api.OK {
				t.Fatalf("%s\nlive finds the error %d at %v", tell(g), e, s)
			}
			if !slices.Contains(l, r) {
				t.Errorf("%s\nthe constant at %v is not asked again", tell(g), s)
			}
		}
	}
}

// constants are the spots at which they stand.
func constants(g api.Graph) (l []api.Spot) {
	for n, b := range g.Blocks {
		for k, i := range b.Ins {
			if i.Kind == api.InConst {
				l = append(l, api.Spot{Block: n, Ins: k})
			}
		}
	}
	return l
}

// someOf are all of a list, or of a long one some from all over it.
func someOf[T any](l []T) (some []T) {
	for n := 0; n < len(l); n += 1 + len(l)/60 {
		some = append(some, l[n])
	}
	return some
}

// testEnd holds what P14.4 says of branches.
func testEnd(t *testing.T, g api.Graph, b api.Block) {
	t.Helper()
	if b.Last != api.LaBranch {
		return
	}
	if b.Yes == b.No {
		t.Errorf("%s\nboth ways lead to %d", tell(g), b.Yes)
	}
	var last api.InsKind
	for _, i := range b.Ins {
		if changes(i) && i.A == b.Reg {
			last = i.Kind
		}
	}
	if last == api.InConst {
		t.Errorf("%s\nthe branch by r%d stays", tell(g), b.Reg)
	}
}

func changes(i api.Ins) bool {
	return slices.Contains([]api.InsKind{api.InConst, api.InMove, api.InCalc, api.InShared, api.InNew, api.InLoad, api.InOwnLoad}, i.Kind)
}

// TestLeastFuel holds that the tests' own least fuel is just that, so that one step more in what was answered would be seen.
func TestLeastFuel(t *testing.T) {
	for _, row := range []struct {
		text        string
		picks, want int
		least       int
	}{
		{"halt", 1, 1, 1}, {"halt", 5, 5, 1}, {"print r0; print r0; halt", 1, 1, 1}, {"print r0; print r0; halt", 3, 3, 3}, {"jump 0", 3, 0, 1}, {"print r0; jump 1 | jump 1", 3, 1, 1}, {"begin; print r0; end; halt", 3, 3, 4},
	} {
		c := read(t, row.text)
		picks, least := enough(t, c, picked(0, row.picks), plenty)
		if len(picks) != row.want || least != row.least {
			t.Errorf("%s: %d picks with the fuel %d", row.text, len(picks), least)
		}
		if w, e := walk.Run(c, picks, max(1, least-1)); e != api.OK || !w.Short && least > 1 {
			t.Errorf("%s: with the fuel %d: %+v", row.text, least-1, w)
		}
	}
}
