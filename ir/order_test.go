package ir_test

import (
	"fmt"
	"math"
	"slices"
	"testing"

	"turnstile/api"
)

// flaws are what is wrong with a graph, as bits.
type flaws int

const (
	manyRegs flaws = 1 << iota
	manyBlocks
	manyIns
	manySites
	noSites
	noBlock
	wrongSpot
	bothSides
	wrongSide
	allFlaws
)

// may says whether a graph can have these together.
func (f flaws) may() bool {
	return (f&manySites == 0 || f&noSites == 0) && (f&noBlock == 0 || f&(manyBlocks|manyIns|wrongSpot|bothSides|wrongSide) == 0)
}

// found is what the chapter says of a graph that has them, as that thread's: the later one is looked for, the further ahead it stands.
func (f flaws) found(thread int) found {
	switch {
	case f&(manyRegs|manyBlocks|manyIns|manySites) != 0:
		return limitFault(thread)
	case f&(noSites|noBlock) != 0:
		return graphFault(thread, 0, 0)
	case f&wrongSpot != 0:
		return graphFault(thread, 3, 1)
	case f&bothSides != 0:
		return graphFault(thread, 2, 0)
	case f&wrongSide != 0:
		return graphFault(thread, 0, 1)
	}
	return nothing()
}

// graph has just these.
func (f flaws) graph() api.Graph {
	g := graph(branch(0, 1, 3, constant(0, 1), constant(0, 2)), jump(2), jump(2, constant(0, 3)), jump(2, constant(0, 4), constant(0, 5)))
	if f&wrongSide != 0 {
		g.Blocks[0].Ins[1] = access(api.InLoad, 0, 3, -1, 0)
	}
	if f&bothSides != 0 {
		g.Blocks[1].Ins = []api.Ins{begin()}
	}
	if f&wrongSpot != 0 {
		g.Blocks[3].Ins[1] = constant(6, 5)
	}
	if f&noBlock != 0 {
		g.Blocks = nil
	}
	if f&manyIns != 0 {
		g.Blocks = append(g.Blocks, halt(make([]api.Ins, api.MaxIns+1)...))
	}
	if f&manyBlocks != 0 {
		g.Blocks = append(g.Blocks, make([]api.Block, api.MaxBlocks)...)
	}
	if f&manyRegs != 0 {
		g.Refs = append(g.Refs, make([]bool, api.MaxRegs)...)
	}
	if f&manySites != 0 {
		g.Sites = api.MaxIns + 1
	}
	if f&noSites != 0 {
		g.Sites = -1
	}
	return g
}

// testThreads holds what Check finds of threads, and that Text tells nothing else.
func testThreads(t *testing.T, what any, words int, threads []api.Graph, want found) {
	t.Helper()
	c := api.Code{Words: words, Threads: threads}
	testCheck(t, what, c, want)
	if want != nothing() {
		testUntold(t, what, c, want.e)
	}
}

// TestOrderInAThread holds which fault of one thread is told, whatever other ones it has. (P9.1)
func TestOrderInAThread(t *testing.T) {
	for f := flaws(0); f < allFlaws; f++ {
		if !f.may() {
			continue
		}
		g := f.graph()
		for thread := range api.MaxThreads {
			threads := []api.Graph{atOnce(), atOnce(), atOnce(), atOnce()}
			threads[thread] = g
			testThreads(t, fmt.Sprintf("the flaws %b", f), 7, threads, f.found(thread))
			testThreads(t, fmt.Sprintf("the flaws %b", f), 7, threads[:thread+1], f.found(thread))
		}
	}
}

// TestOrderOfThreads holds that a thread's faults are told ahead of those of later ones, whatever they are. (P9.1)
func TestOrderOfThreads(t *testing.T) {
	var all []flaws
	for f := flaws(1); f < allFlaws; f *= 2 {
		all = append(all, f)
	}
	all = append(all, 0, wrongSpot|bothSides, bothSides|wrongSide, manyRegs|wrongSpot, noSites|wrongSide)
	for _, f := range all {
		for _, k := range all {
			want := f.found(1)
			if f == 0 {
				want = k.found(2)
			}
			what := fmt.Sprintf("the flaws %b ahead of %b", f, k)
			threads := []api.Graph{atOnce(), f.graph(), k.graph()}
			testThreads(t, what, 7, threads, want)
			testThreads(t, what, 7, append(threads, flaws(manyIns).graph()), firstOf(want, limitFault(3)))
			testThreads(t, what, 7, append(threads, flaws(noBlock).graph()), firstOf(want, graphFault(3, 0, 0)))
		}
	}
}

func firstOf(a, b found) found {
	if a != nothing() {
		return a
	}
	return b
}

// TestOrderOfTheWhole holds that limits of the whole are told first, then Words below 0, then what threads have. (P9.1)
func TestOrderOfTheWhole(t *testing.T) {
	var lists [][]api.Graph
	for f := flaws(1); f < allFlaws; f *= 2 {
		lists = append(lists, []api.Graph{f.graph()}, []api.Graph{atOnce(), f.graph()})
	}
	lists = append(lists, nil, []api.Graph{}, []api.Graph{atOnce()}, slices.Repeat([]api.Graph{atOnce()}, api.MaxThreads), make([]api.Graph, api.MaxThreads))
	for _, threads := range lists {
		for _, words := range []int{api.MaxHeap + 1, api.MaxHeap + 2, 1 << 32, math.MaxInt} {
			testThreads(t, "too many words", words, threads, limitFault(0))
		}
		for _, words := range []int{-1, -2, -api.MaxHeap, -1 << 32, -1<<32 + 1, math.MinInt} {
			testThreads(t, "too few words", words, threads, graphFault(0, 0, 0))
		}
		for more := range 3 {
			many := append(slices.Clone(threads), make([]api.Graph, api.MaxThreads+1+more)...)
			for _, words := range []int{0, 7, api.MaxHeap, api.MaxHeap + 1, math.MaxInt, -1, math.MinInt} {
				testThreads(t, "too many threads", words, many, limitFault(0))
			}
		}
	}
	testThreads(t, "too many threads, all of which may be", 0, slices.Repeat([]api.Graph{atOnce()}, api.MaxThreads+1), limitFault(0))
	testThreads(t, "very many threads", 0, make([]api.Graph, 1<<16), limitFault(0))
}

// TestFirstSpot holds that the first spot which may not be by itself is told, the end of a block behind its instructions. (P9.1)
func TestFirstSpot(t *testing.T) {
	wrong := []api.Ins{constant(6, 1), {}, made(3, 1, 3), calc(api.CalcNone, 0, 0, 0), isNil(0), index(0, 0), shared(3, 8), access(api.InLoad, 0, 3, -2, 0), tell(3), {Kind: api.InBegin, N: 1}}
	for n := range 3 {
		for k := range 4 {
			for _, i := range wrong {
				g := graph(jump(1, tell(0), tell(0), tell(0)), jump(2, tell(0), tell(0), tell(0)), halt(tell(0), tell(0), tell(0)))
				for later := n; later < 3; later++ {
					for at := range 4 {
						switch {
						case later == n && at < k:
						case at == 3:
							g.Blocks[later].Last = api.LaNone
						default:
							g.Blocks[later].Ins[at] = i
						}
					}
				}
				testCheck(t, fmt.Sprintf("%+v from %d and %d on", i, n, k), code(atOnce(), g), graphFault(1, n, k))
			}
		}
	}
}

// TestLimits holds each limit of a graph, at its edge and beyond. (P9.1)
func TestLimits(t *testing.T) {
	test := func(what string, g api.Graph, want found) {
		t.Helper()
		testCheck(t, what, code(g), want)
		want.thread = map[bool]int{true: 0, false: 3}[want == nothing()]
		testCheck(t, what, code(atOnce(), atOnce(), atOnce(), g), want)
	}
	for more, want := range []found{nothing(), limitFault(0), limitFault(0)} {
		refs := make([]bool, api.MaxRegs+more)
		last := api.MaxRegs - 1
		refs[last] = true
		test("registers", api.Graph{Refs: refs, Blocks: []api.Block{halt(isNil(last), tell(last-1))}}, want)
		test("registers without an end", api.Graph{Refs: refs, Blocks: []api.Block{jump(0)}}, want)
		blocks := slices.Repeat([]api.Block{halt()}, api.MaxBlocks+more)
		test("blocks", api.Graph{Blocks: blocks}, want)
		blocks[0] = jump(api.MaxBlocks - 1)
		test("blocks", api.Graph{Blocks: blocks}, want)
		ins := slices.Repeat([]api.Ins{constant(0, 1)}, api.MaxIns+more)
		test("instructions of a block", graph(halt(ins...)), want)
		test("instructions of a block that is not reached", graph(halt(), halt(ins...)), want)
		test("instructions of two blocks", graph(jump(1, ins[:4000]...), halt(ins[4000:]...)), want)
		test("instructions of three blocks", graph(jump(2, ins[:1]...), halt(ins[1:8000]...), halt(ins[8000:]...)), want)
		one := slices.Repeat([]api.Block{halt(ins[:2]...)}, api.MaxBlocks)
		one[77].Ins = ins[:2+more]
		test("instructions of all blocks", graph(one...), want)
		test("sites", api.Graph{Sites: api.MaxIns + more, Blocks: []api.Block{halt()}}, want)
	}
	test("more registers", api.Graph{Refs: make([]bool, 1<<16), Blocks: []api.Block{halt()}}, limitFault(0))
	test("more blocks", api.Graph{Blocks: make([]api.Block, 1<<16)}, limitFault(0))
	test("more instructions", graph(halt(make([]api.Ins, 1<<16)...)), limitFault(0))
	test("more instructions in each block", graph(slices.Repeat([]api.Block{halt(make([]api.Ins, api.MaxIns)...)}, 64)...), limitFault(0))
	for _, sites := range []int{api.MaxIns + 100, 1 << 16, 1 << 32, math.MaxInt} {
		test("more sites", api.Graph{Sites: sites, Blocks: []api.Block{halt()}}, limitFault(0))
		test("more sites and no block", api.Graph{Sites: sites}, limitFault(0))
	}
	for _, sites := range []int{-1, -2, -api.MaxIns, -1 << 32, -1<<32 + 1, math.MinInt} {
		test("fewer sites", api.Graph{Sites: sites, Blocks: []api.Block{halt()}}, graphFault(0, 0, 0))
	}
	test("no block", api.Graph{}, graphFault(0, 0, 0))
	test("no block, an empty list", api.Graph{Refs: []bool{}, Blocks: []api.Block{}}, graphFault(0, 0, 0))
	test("no block, but registers and sites", api.Graph{Refs: make([]bool, 5), Sites: 5}, graphFault(0, 0, 0))
	// The limits are those of each thread, not of all together.
	full := api.Graph{Refs: make([]bool, api.MaxRegs), Sites: api.MaxIns, Blocks: slices.Repeat([]api.Block{halt(constant(0, 1), constant(0, 2))}, api.MaxBlocks)}
	testCheck(t, "all that there may be", api.Code{Words: api.MaxHeap, Threads: []api.Graph{full, full, full, full}}, nothing())
	for _, words := range []int{0, 1, api.MaxHeap - 1, api.MaxHeap} {
		testCheck(t, "words", api.Code{Words: words}, nothing())
		testCheck(t, "words", api.Code{Words: words, Threads: []api.Graph{atOnce()}}, nothing())
	}
}
