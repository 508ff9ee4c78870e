package walk_test

import (
	"math"
	"slices"
	"testing"

	"turnstile/api"
	"turnstile/ir"
)

// wrongFuels are fuels that may not be, and whether there is too little.
func wrongFuels() map[int]bool {
	return map[int]bool{0: true, -1: true, -2: true, math.MinInt: true, -api.MaxFuel: true, api.MaxFuel + 1: false, api.MaxFuel + 2: false, 1 << 32: false, math.MaxInt: false}
}

// TestOrderOfErrors holds which error is answered where several apply. (P10.1)
func TestOrderOfErrors(t *testing.T) {
	c := read(t, 3, "print r0/halt")
	most, tooMany := make([]int, api.MaxPicks), make([]int, api.MaxPicks+1)
	for _, picks := range [][]int{nil, {}, {0}, {1}, most, tooMany, append(tooMany, tooMany...)} {
		for fuel, tooLittle := range wrongFuels() {
			want := "the error 3"
			if tooLittle {
				want = "the error 1"
			}
			testRun(t, "a wrong fuel", c, picks, fuel, want)
			testRun(t, "a wrong fuel and no thread", api.Code{}, picks, fuel, want)
		}
	}
	for _, fuel := range []int{1, 2, 100, api.MaxFuel} {
		testRun(t, "too many picks", c, tooMany, fuel, "the error 3")
		testRun(t, "too many picks of nothing", c, slices.Repeat([]int{-1}, api.MaxPicks+1), fuel, "the error 3")
		testRun(t, "too many picks and no thread", api.Code{}, tooMany, fuel, "the error 3")
	}
	testRun(t, "most picks", c, most, 2, "0 done")
	testRun(t, "most picks", c, most, api.MaxFuel, "0 done")
	testRun(t, "most picks of nothing", c, slices.Repeat([]int{-1}, api.MaxPicks), 1, "..")
	testRun(t, "least fuel", c, most, 1, "0 .. short")
	testRun(t, "least fuel", c, []int{0}, 1, "0 ..")
}

// wrongGraphs are programs that ir refuses, by its errors and at all sorts of places, each by what is wrong.
func wrongGraphs() map[string]api.Code {
	whole := func(words int, threads ...api.Graph) api.Code { return api.Code{Words: words, Threads: threads} }
	halt := api.Block{Last: api.LaHalt}
	of := func(blocks ...api.Block) api.Graph {
		return api.Graph{Refs: []bool{false, true}, Sites: 1, Blocks: blocks}
	}
	does := func(l ...api.Ins) api.Code { return whole(3, of(api.Block{Ins: l, Last: api.LaHalt})) }
	begin, end := api.Ins{Kind: api.InBegin}, api.Ins{Kind: api.InEnd}
	long := api.Block{Ins: slices.Repeat([]api.Ins{{Kind: api.InPrint}}, api.MaxIns+1), Last: api.LaHalt}
	return map[string]api.Code{
		"too many words": whole(api.MaxHeap + 1), "words below 0": whole(-1, of(halt)), "too many threads": whole(3, of(halt), of(halt), of(halt), of(halt), of(halt)),
		"no block": whole(3, of()), "no block in the last thread": whole(3, of(halt), api.Graph{}), "sites below 0": whole(3, api.Graph{Sites: -1, Blocks: []api.Block{halt}}), "too many sites": whole(3, api.Graph{Sites: api.MaxIns + 1, Blocks: []api.Block{halt}}),
		"too many registers": whole(3, api.Graph{Refs: make([]bool, api.MaxRegs+1), Blocks: []api.Block{halt}}), "too many blocks": whole(3, of(slices.Repeat([]api.Block{halt}, api.MaxBlocks+1)...)), "too many instructions": whole(3, of(long)),
		"no end": whole(3, of(api.Block{})), "an end of no kind": whole(3, of(api.Block{Last: api.LaHalt + 1})), "a jump to no block": whole(3, of(api.Block{Last: api.LaJump, Yes: 1})), "a jump ahead of all": whole(3, of(api.Block{Last: api.LaJump, Yes: -1})), "a branch by a reference": whole(3, of(api.Block{Last: api.LaBranch, Reg: 1})), "a branch by no register": whole(3, of(api.Block{Last: api.LaBranch, Reg: 2})), "a branch to no block": whole(3, of(api.Block{Last: api.LaBranch, No: 1})),
		"no instruction": does(api.Ins{}), "one of no kind": does(api.Ins{Kind: api.InEnd + 1}), "the last kind": does(api.Ins{Kind: 255}), "no register": does(api.Ins{Kind: api.InPrint, B: 2}), "a register below 0": does(api.Ins{Kind: api.InConst, A: -1}), "a reference told": does(api.Ins{Kind: api.InPrint, B: 1}), "a reference of 5": does(api.Ins{Kind: api.InConst, A: 1, N: 5}), "no operation": does(api.Ins{Kind: api.InCalc}), "one operation more": does(api.Ins{Kind: api.InCalc, Calc: api.CalcLe + 1}),
		"no shared word": does(api.Ins{Kind: api.InShared, A: 1, N: 4}), "the word 0": does(api.Ins{Kind: api.InShared, A: 1}), "new of nothing": does(begin, api.Ins{Kind: api.InNew, A: 1}, end), "new of no site": does(begin, api.Ins{Kind: api.InNew, A: 1, N: 1, C: 1}, end), "an index of nothing": does(api.Ins{Kind: api.InIndex}), "a load by a number": does(begin, api.Ins{Kind: api.InLoad, C: -1}, end), "a load with a C of -2": does(begin, api.Ins{Kind: api.InLoad, B: 1, C: -2}, end), "a load of a reference's index": does(begin, api.Ins{Kind: api.InLoad, B: 1, C: 1}, end),
		"an end outside": does(end), "a begin within": does(begin, begin, end), "a halt within": does(begin), "new outside": does(api.Ins{Kind: api.InNew, A: 1, N: 1}), "a load outside": does(api.Ins{Kind: api.InLoad, B: 1, C: -1}), "an own store outside": does(api.Ins{Kind: api.InOwnStore, B: 1, C: -1}), "a block on both sides": whole(3, of(api.Block{Last: api.LaBranch, Yes: 1}, api.Block{Ins: []api.Ins{begin}, Last: api.LaJump, Yes: 1})), "a wrong spot that is not reached": whole(3, of(halt, api.Block{})),
	}
}

// TestWrongGraphs holds ErrGraph of whatever ir refuses, by whatever error, whatever is given with it.
func TestWrongGraphs(t *testing.T) {
	for what, c := range wrongGraphs() {
		if _, _, e := ir.Check(c); e == api.OK {
			t.Errorf("%s: ir finds nothing", what)
		}
		for _, picks := range [][]int{nil, {}, {0}, {0, 1, 5, -1}, make([]int, api.MaxPicks+1)} {
			for _, fuel := range []int{1, 100, api.MaxFuel, 0, -1, api.MaxFuel + 1, math.MaxInt, math.MinInt} {
				testRun(t, what, c, picks, fuel, "the error 14")
			}
		}
	}
}
