package live_test

import (
	"maps"
	"slices"
	"testing"

	"turnstile/api"
)

// The graphs of this file have as many blocks and registers as there may be, and about as many instructions. Block 0 begins a block of the language, the last one ends it; those between lead to each other and to the last one in a certain way, and do certain things.

const inner = api.MaxBlocks - 2

// ways say to which of the inner blocks one leads; inner is the last block of all.
func ways() map[string]func(n int) []int {
	m := newMaker(141)
	return map[string]func(n int) []int{
		"a row":               func(n int) []int { return []int{n + 1} },
		"a row of loops":      func(n int) []int { return []int{n, n + 1} },
		"a row that is left":  func(n int) []int { return []int{n + 1, inner} },
		"a row and all back":  func(n int) []int { return []int{n + 1, 0} },
		"a ring":              func(n int) []int { return []int{(n + 1) % inner} },
		"loops within loops":  func(n int) []int { return []int{n + 1, max(0, inner-1-n)} },
		"a tree":              func(n int) []int { return []int{min(2*n+1, inner), min(2*n+2, inner)} },
		"a tree and back":     func(n int) []int { return []int{(2*n + 1) % inner, (2*n + 2) % inner} },
		"on by one, by two":   func(n int) []int { return []int{n + 1, min(n+2, inner)} },
		"on by one, back":     func(n int) []int { return []int{n + 1, max(n-1, 0)} },
		"on by one, back two": func(n int) []int { return []int{n + 1, max(n-2, 0)} },
		"on by two, back one": func(n int) []int { return []int{min(n+2, inner), max(n-1, 0)} },
		"ways that part and meet": func(n int) []int {
			if n%3 == 0 {
				return []int{min(n+1, inner), min(n+2, inner)}
			}
			return []int{min(n/3*3+3, inner)}
		},
		"from the last one on": func(n int) []int {
			switch n {
			case 0:
				return []int{inner - 1}
			case 1:
				return []int{inner}
			}
			return []int{n - 1}
		},
		"all to one": func(n int) []int {
			if n == inner-1 {
				return []int{0, inner}
			}
			return []int{inner - 1, n + 1}
		},
		"not reached": func(n int) []int {
			if n == 0 {
				return []int{inner}
			}
			return []int{n - 1, n}
		},
		"anywhere":     func(int) []int { return []int{m.Intn(inner + 1), m.Intn(inner)} },
		"near by":      func(n int) []int { return []int{min(n+m.Intn(40), inner), max(0, n-m.Intn(40))} },
		"very near by": func(n int) []int { return []int{min(n+m.Intn(3), inner), max(0, n-m.Intn(3))} },
	}
}

func asking(r int) api.Ins { return api.Ins{Kind: api.InPrint, B: r % api.MaxRegs} }

func changing(r int) api.Ins { return api.Ins{Kind: api.InConst, A: r % api.MaxRegs} }

// doing are what inner block n does, and the last one behind the InEnd.
func doing() map[string]func(n int) []api.Ins {
	m := newMaker(142)
	all := func() (l []api.Ins) {
		for r := range api.MaxRegs {
			l = append(l, asking(r))
		}
		return l
	}
	return map[string]func(n int) []api.Ins{
		"each asks one":           func(n int) []api.Ins { return []api.Ins{asking(n)} },
		"each asks and changes":   func(n int) []api.Ins { return []api.Ins{asking(n), changing(n + 1)} },
		"each changes and asks":   func(n int) []api.Ins { return []api.Ins{changing(n), asking(n * 7)} },
		"each two of all kinds":   func(n int) []api.Ins { return []api.Ins{m.deed(), m.deed()} },
		"few are changed":         func(n int) []api.Ins { return []api.Ins{asking(n), changing(n % 3)} },
		"nothing but at the ends": func(int) []api.Ins { return nil },
		"the last one asks all": func(n int) []api.Ins {
			if n == inner {
				return all()
			}
			return []api.Ins{changing(n * 5 / 4)}
		},
		"some of the last ones ask all": func(n int) []api.Ins {
			switch {
			case n == inner-1 || n == inner-3:
				return all()
			case n%4 == 3:
				return []api.Ins{changing(n * 3)}
			}
			return nil
		},
	}
}

func (m maker) deed() api.Ins {
	a, b, c := m.Intn(api.MaxRegs), m.Intn(api.MaxRegs), m.Intn(api.MaxRegs)
	return one(m, asking(a), changing(a), api.Ins{Kind: api.InMove, A: a, B: b}, api.Ins{Kind: api.InCalc, Calc: api.CalcAdd, A: a, B: b, C: c}, api.Ins{Kind: api.InIndex, B: b, N: 1})
}

// most is such a graph. All registers are numbers, and each branch asks another one.
func most(way func(n int) []int, do func(n int) []api.Ins) (g api.Graph) {
	g.Refs = make([]bool, api.MaxRegs)
	g.Blocks = []api.Block{{Ins: []api.Ins{{Kind: api.InBegin}}, Last: api.LaJump, Yes: 1}}
	for n := range inner {
		b := api.Block{Ins: do(n)}
		switch to := way(n); len(to) {
		case 1:
			b.Last, b.Yes = api.LaJump, to[0]+1
		case 2:
			b.Last, b.Reg, b.Yes, b.No = api.LaBranch, n*11%api.MaxRegs, to[0]+1, to[1]+1
		}
		g.Blocks = append(g.Blocks, b)
	}
	last := append([]api.Ins{{Kind: api.InEnd}}, do(inner)...)
	g.Blocks = append(g.Blocks, api.Block{Ins: last, Last: api.LaHalt})
	return g
}

// backFrom says at which blocks' beginnings a register is live: from those that ask it ahead of changing it one goes back through all that do not change it.
func backFrom(g api.Graph, ahead [][]int, r int) []bool {
	live := make([]bool, len(g.Blocks))
	var open []int
	first := func(b api.Block) (asked, changed bool) {
		for _, i := range b.Ins {
			if asks(i, r) || changes(i, r) {
				return asks(i, r), changes(i, r)
			}
		}
		return b.Last == api.LaBranch && b.Reg == r, false
	}
	through := make([]bool, len(g.Blocks))
	for n, b := range g.Blocks {
		asked, changed := first(b)
		through[n] = !asked && !changed
		if asked {
			open = append(open, n)
		}
	}
	for len(open) > 0 {
		n := open[len(open)-1]
		open = open[:len(open)-1]
		if live[n] {
			continue
		}
		live[n] = true
		for _, from := range ahead[n] {
			if through[from] {
				open = append(open, from)
			}
		}
	}
	return live
}

func aheadOf(g api.Graph) [][]int {
	ahead := make([][]int, len(g.Blocks))
	for n, b := range g.Blocks {
		for _, to := range leadsTo(b) {
			ahead[to] = append(ahead[to], n)
		}
	}
	return ahead
}

// testMost holds the three calls' answers of a graph as great as this.
func testMost(t *testing.T, g api.Graph, some []int) {
	t.Helper()
	ahead, l := aheadOf(g), in(t, g)
	for _, r := range some {
		for n, is := range backFrom(g, ahead, r) {
			if _, got := slices.BinarySearch(l[n], r); got != is {
				t.Fatalf("%d is live at %d: %v", r, n, got)
			}
		}
	}
	within := make([]bool, api.MaxRegs)
	for n, is := range reached(g) {
		if !slices.IsSorted(l[n]) {
			t.Fatalf("%v are live at %d", l[n], n)
		}
		for _, i := range g.Blocks[n].Ins {
			if is && n < api.MaxBlocks-1 && changes(i, i.A) {
				within[i.A] = true
			}
		}
	}
	want := slices.DeleteFunc(slices.Clone(l[0]), func(r int) bool { return !within[r] })
	if got := saved(t, g, spot(0, 0)); !slices.Equal(got, want) {
		t.Errorf("Saved: %d registers, not %d", len(got), len(want))
	}
	for _, n := range []int{0, 2000, inner + 1} {
		if got := at(t, g, spot(n, 0)); !slices.Equal(got, l[n]) {
			t.Errorf("At %d: %d registers, not %d", n, len(got), len(l[n]))
		}
	}
	// At an end there is what is live where it leads to, and its register.
	want = slices.Clone(l[g.Blocks[1].Yes])
	if g.Blocks[1].Last == api.LaBranch {
		want = append(append(want, l[g.Blocks[1].No]...), g.Blocks[1].Reg)
	}
	slices.Sort(want)
	if got := at(t, g, spot(1, len(g.Blocks[1].Ins))); !slices.Equal(got, slices.Compact(want)) {
		t.Errorf("At the end of 1: %d registers, not %d", len(got), len(want))
	}
}

// TestMost holds what is answered of as many blocks and registers as there may be, and that the calls end in time. (P13.1 to P13.3)
func TestMost(t *testing.T) {
	some := []int{0, 1, 2, 3, 5, 11, 63, 64, 65, 500, 511, 512, 1000, 1022, 1023}
	all := slices.Sorted(maps.Keys(doing()))
	for n, way := range slices.Sorted(maps.Keys(ways())) {
		for _, do := range []string{all[n%len(all)], all[(n+3)%len(all)]} {
			t.Run(way+", "+do, func(t *testing.T) {
				t.Parallel()
				testMost(t, most(ways()[way], doing()[do]), some)
			})
		}
	}
}

// TestMostInstructions holds graphs of few blocks with as many instructions as there may be. (P13.1 to P13.3)
func TestMostInstructions(t *testing.T) {
	m := newMaker(143)
	for range 5 {
		g := api.Graph{Refs: make([]bool, api.MaxRegs), Blocks: []api.Block{{Last: api.LaBranch, Yes: 1, No: 2}, {Last: api.LaJump, Yes: 2}, {Last: api.LaBranch, Reg: 5, Yes: 1, No: 3}, {Last: api.LaHalt}}}
		g.Blocks[0].Ins = []api.Ins{{Kind: api.InBegin}}
		g.Blocks[3].Ins = []api.Ins{{Kind: api.InEnd}}
		for k := range api.MaxIns - 2 {
			b := &g.Blocks[k%4]
			b.Ins = append(b.Ins, m.deed())
		}
		w := wordsOf(g)
		for _, n := range []int{0, 1, 1000, 3000, 5000, 8000, len(w.spots) - 1} {
			if got, want := at(t, g, w.spots[n]), w.live(n); !slices.Equal(got, want) {
				t.Errorf("At %v: %d registers, not %d", w.spots[n], len(got), len(want))
			}
		}
		if got, want := saved(t, g, spot(0, 0)), w.saved(0); !slices.Equal(got, want) {
			t.Errorf("Saved: %d registers, not %d", len(got), len(want))
		}
	}
}
