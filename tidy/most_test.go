package tidy_test

import (
	"maps"
	"slices"
	"testing"

	"turnstile/api"
)

// The graphs of this file have as many blocks and registers as there may be, or as many instructions. Block 0 begins a block of the language, the last one ends it; those between lead to each other and to the last one in a certain way, do certain things, and branch by certain registers.

const inner = api.MaxBlocks - 2

// ways say to which of the inner blocks one leads; inner is the last block of all.
func ways() map[string]func(n int) []int {
	m := newMaker(145)
	return map[string]func(n int) []int{
		"a row":               func(n int) []int { return []int{n + 1} },
		"a row of loops":      func(n int) []int { return []int{n, n + 1} },
		"a row that is left":  func(n int) []int { return []int{n + 1, inner} },
		"a row and all back":  func(n int) []int { return []int{n + 1, 0} },
		"a ring":              func(n int) []int { return []int{(n + 1) % inner} },
		"loops within loops":  func(n int) []int { return []int{n + 1, max(0, inner-1-n)} },
		"a tree":              func(n int) []int { return []int{min(2*n+1, inner), min(2*n+2, inner)} },
		"a tree and back":     func(n int) []int { return []int{(2*n + 1) % inner, (2*n + 2) % inner} },
		"on by one, by two":   func(n int) []int { return []int{n + 1, min(n+2, inner)} },
		"on by one, back":     func(n int) []int { return []int{n + 1, max(n-1, 0)} },
		"on by two, back one": func(n int) []int { return []int{min(n+2, inner), max(n-1, 0)} },
		"branch in branch":    func(n int) []int { return []int{min(n+1, inner), inner - min(n, inner/2)} },
		"one way each":        func(n int) []int { return []int{n + 1, n + 1} },
		"ways that part and meet": func(n int) []int {
			if n%3 == 0 {
				return []int{min(n+1, inner), min(n+2, inner)}
			}
			return []int{min(n/3*3+3, inner)}
		},
		"from the last one on": func(n int) []int {
			switch n {
			case 0:
				return []int{inner - 1}
			case 1:
				return []int{inner}
			}
			return []int{n - 1}
		},
		"all to one": func(n int) []int {
			if n == inner-1 {
				return []int{0, inner}
			}
			return []int{inner - 1, n + 1}
		},
		"not reached": func(n int) []int {
			if n == 0 {
				return []int{inner}
			}
			return []int{n - 1, n}
		},
		"anywhere":     func(int) []int { return []int{m.Intn(inner + 1), m.Intn(inner)} },
		"near by":      func(n int) []int { return []int{min(n+m.Intn(40), inner), max(0, n-m.Intn(40))} },
		"very near by": func(n int) []int { return []int{min(n+m.Intn(3), inner), max(0, n-m.Intn(3))} },
	}
}

func asking(r int) api.Ins { return api.Ins{Kind: api.InPrint, B: r % api.MaxRegs} }

func changing(r int) api.Ins {
	return api.Ins{Kind: api.InConst, A: r % api.MaxRegs, N: int64(r/3) % 2}
}

func moving(to, from int) api.Ins {
	return api.Ins{Kind: api.InMove, A: to % api.MaxRegs, B: from % api.MaxRegs}
}

// doing are what inner block n does, block 0 behind its InBegin (n is -1), and the last one behind the InEnd.
func doing() map[string]func(n int) []api.Ins {
	m := newMaker(146)
	all := func(do func(r int) api.Ins) (l []api.Ins) {
		for r := range api.MaxRegs {
			l = append(l, do(r))
		}
		return l
	}
	firstLast := func(first, last func(r int) api.Ins, between func(n int) []api.Ins) func(n int) []api.Ins {
		return func(n int) []api.Ins {
			switch {
			case n == -1 && first != nil:
				return all(first)
			case n == inner && last != nil:
				return all(last)
			}
			return between(max(n, 0))
		}
	}
	nothing := func(int) []api.Ins { return nil }
	return map[string]func(n int) []api.Ins{
		"nothing":                 nothing,
		"each asks one":           func(n int) []api.Ins { return []api.Ins{asking(n + 1)} },
		"each asks and changes":   func(n int) []api.Ins { return []api.Ins{asking(n + 1), changing(n + 2)} },
		"each changes one":        func(n int) []api.Ins { return []api.Ins{changing(n*11 + 11)} },
		"each moves one on":       func(n int) []api.Ins { return []api.Ins{moving(n+2, n+1)} },
		"each moves one back":     func(n int) []api.Ins { return []api.Ins{moving(n+1, n+2), moving(n+3, n+4)} },
		"each two of all kinds":   func(n int) []api.Ins { return []api.Ins{m.deed(), m.deed()} },
		"constants, and all told": firstLast(changing, asking, nothing),
		"constants by the way":    firstLast(changing, asking, func(n int) []api.Ins { return []api.Ins{changing(n * 7)} }),
		"nothing comes of it":     firstLast(changing, nil, func(n int) []api.Ins { return []api.Ins{moving(n, n+5)} }),
		"what comes of it": firstLast(nil, func(r int) api.Ins { return asking(r) }, func(n int) []api.Ins {
			return []api.Ins{{Kind: api.InCalc, Calc: api.CalcAdd, A: n % 1000, B: n * 7 % 1000, C: 1001}}
		}),
	}
}

func (m maker) deed() api.Ins {
	a, b, c := m.Intn(api.MaxRegs), m.Intn(api.MaxRegs), m.Intn(api.MaxRegs)
	return one(m, asking(a), changing(a), changing(a), moving(a, b), api.Ins{Kind: api.InCalc, Calc: api.CalcAdd + api.Calc(m.Intn(14)), A: a, B: b, C: c}, api.Ins{Kind: api.InIndex, B: b, N: 9})
}

// most is such a graph. All registers are numbers; branches ask one alone, or each another one.
func most(way func(n int) []int, do func(n int) []api.Ins, by func(n int) int) (g api.Graph) {
	g.Refs = make([]bool, api.MaxRegs)
	g.Blocks = []api.Block{{Ins: append([]api.Ins{{Kind: api.InBegin}}, do(-1)...), Last: api.LaJump, Yes: 1}}
	left := api.MaxIns - len(g.Blocks[0].Ins) - 1
	last := do(inner)
	left -= len(last)
	for n := range inner {
		b := api.Block{Ins: do(n)}
		b.Ins = b.Ins[:min(len(b.Ins), left)]
		left -= len(b.Ins)
		switch to := way(n); len(to) {
		case 1:
			b.Last, b.Yes = api.LaJump, to[0]+1
		case 2:
			b.Last, b.Reg, b.Yes, b.No = api.LaBranch, by(n), to[0]+1, to[1]+1
		}
		g.Blocks = append(g.Blocks, b)
	}
	return api.Graph{Refs: g.Refs, Blocks: append(g.Blocks, api.Block{Ins: append([]api.Ins{{Kind: api.InEnd}}, last...), Last: api.LaHalt})}
}

// testMost holds the promises of a graph as great as this.
func testMost(t *testing.T, g api.Graph) {
	t.Helper()
	c := api.Code{Words: 1, Threads: []api.Graph{g}}
	less := tidied(t, c)
	testNoMore(t, c, less)
	testIsTidy(t, less)
	testSameBy(t, c, less, picked(0, 12), 5000)
}

// TestMost holds the promises of as many blocks and registers as there may be, and that Tidy ends in time. (P14.2 to P14.4)
func TestMost(t *testing.T) {
	all := slices.Sorted(maps.Keys(doing()))
	for n, way := range slices.Sorted(maps.Keys(ways())) {
		for k := range 4 {
			do := all[(n+3*k)%len(all)]
			by := func(n int) int { return n * 11 % api.MaxRegs }
			if k%2 == 1 {
				by = func(int) int { return 1003 }
			}
			t.Run(way+", "+do, func(t *testing.T) {
				t.Parallel()
				testMost(t, most(ways()[way], doing()[do], by))
			})
		}
	}
}

// TestMostInstructions holds the promises of few blocks with as many instructions as there may be. (P14.2 to P14.4)
func TestMostInstructions(t *testing.T) {
	m := newMaker(147)
	for range 4 {
		g := api.Graph{Refs: make([]bool, api.MaxRegs), Blocks: []api.Block{{Last: api.LaBranch, Yes: 1, No: 2}, {Last: api.LaJump, Yes: 2}, {Last: api.LaBranch, Reg: 5, Yes: 1, No: 3}, {Last: api.LaHalt}}}
		for k := range api.MaxIns {
			b := &g.Blocks[k%4]
			b.Ins = append(b.Ins, m.deed())
		}
		testMost(t, g)
	}
	// One block with nothing but constants, or with what is made of them, of which all is asked or nothing.
	for _, do := range []func(k int) api.Ins{changing, func(k int) api.Ins { return moving(k+1, k) }, func(k int) api.Ins {
		return api.Ins{Kind: api.InCalc, Calc: api.CalcAdd, A: (k + 1) % api.MaxRegs, B: k % api.MaxRegs, C: k % api.MaxRegs}
	}} {
		for _, told := range []int{0, 1, api.MaxRegs} {
			l := []api.Ins{changing(0)}
			for k := range api.MaxIns - told - 1 {
				l = append(l, do(k))
			}
			for r := range told {
				l = append(l, asking(api.MaxIns-told-1+r))
			}
			g := api.Graph{Refs: make([]bool, api.MaxRegs), Blocks: []api.Block{{Ins: l, Last: api.LaHalt}}}
			testMost(t, g)
			if less := tidied(t, api.Code{Threads: []api.Graph{g}}); len(less.Threads[0].Blocks[0].Ins) > 2*told {
				t.Errorf("%d instructions stay", len(less.Threads[0].Blocks[0].Ins))
			}
		}
	}
}

// TestMostRoundALoop holds loops in which registers hand on what they hold, as many as there are: each holds the one behind it, or what is known of it, for one time round alone. (P14.3, P14.4)
func TestMostRoundALoop(t *testing.T) {
	for _, told := range []bool{false, true} {
		for _, blocks := range []int{1, 2, 8, 3000} {
			l := []api.Ins{changing(1)}
			for r := range 1020 {
				l = append(l, moving(r, r+1))
			}
			g := api.Graph{Refs: make([]bool, api.MaxRegs), Blocks: []api.Block{{Last: api.LaJump, Yes: 1}}}
			for r := range api.MaxRegs {
				g.Blocks[0].Ins = append(g.Blocks[0].Ins, changing(3*r))
			}
			g.Blocks = append(g.Blocks, api.Block{Ins: l, Last: api.LaBranch, Reg: 1022, Yes: 2, No: blocks + 1})
			for n := 2; n <= blocks; n++ {
				g.Blocks = append(g.Blocks, api.Block{Last: api.LaBranch, Reg: 1023, Yes: n%blocks + 1, No: blocks + 1})
			}
			last := api.Block{Last: api.LaHalt}
			if told {
				last.Ins = []api.Ins{asking(0)}
			}
			if blocks == 1 {
				g.Blocks[1].Yes = 1
			}
			g.Blocks = append(g.Blocks, last)
			testMost(t, g)
		}
	}
}
