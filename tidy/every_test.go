package tidy_test

import (
	"testing"

	"turnstile/api"
)

// everyEnd are all ends of a block of a graph of so many, the branches by r0.
func everyEnd(blocks int) []api.Block {
	l := []api.Block{{Last: api.LaHalt}}
	for yes := range blocks {
		l = append(l, api.Block{Last: api.LaJump, Yes: yes})
		for no := range blocks {
			l = append(l, api.Block{Last: api.LaBranch, Yes: yes, No: no})
		}
	}
	return l
}

// every hands on all graphs of so many blocks, each with one of some lists of instructions and one of all ends.
func every(blocks int, lists [][]api.Ins, test func(l []api.Block)) {
	l := make([]api.Block, blocks)
	var put func(n int)
	put = func(n int) {
		if n == blocks {
			test(l)
			return
		}
		for _, b := range everyEnd(blocks) {
			for _, ins := range lists {
				l[n] = b
				l[n].Ins = ins
				put(n + 1)
			}
		}
	}
	put(0)
}

// TestEvery holds the promises of all graphs of up to three blocks: with nothing in them, or some of these. (P14.2 to P14.4)
func TestEvery(t *testing.T) {
	tell, set, unset := api.Ins{Kind: api.InPrint}, api.Ins{Kind: api.InConst, N: 1}, api.Ins{Kind: api.InConst}
	flip := api.Ins{Kind: api.InCalc, Calc: api.CalcSub, A: 0, B: 1, C: 0}
	first := []api.Ins{{Kind: api.InConst, A: 1, N: 1}, tell}
	for blocks, lists := range map[int][][]api.Ins{
		1: {nil, {tell}, {set}, {unset}, {flip}, {tell, flip}, {tell, set}, {set, tell, unset}},
		2: {nil, {tell}, {set}, {unset}, {tell, flip}, {tell, set}, {set, tell, unset}},
		3: {nil, {tell, flip}},
	} {
		many := 0
		every(blocks, lists, func(l []api.Block) {
			many++
			c := api.Code{Threads: []api.Graph{{Refs: make([]bool, 2), Blocks: append([]api.Block{{Ins: first, Last: api.LaJump, Yes: 1}}, moved(l)...)}}}
			less := tidied(t, c)
			testNoMore(t, c, less)
			testIsTidy(t, less)
			if many%5 == 0 || blocks < 3 {
				testSameBy(t, c, less, picked(0, 6), 60)
			}
		})
	}
}

// moved are blocks with one more ahead of them.
func moved(l []api.Block) []api.Block {
	var m []api.Block
	for _, b := range l {
		if b.Last != api.LaHalt {
			b.Yes++
		}
		if b.Last == api.LaBranch {
			b.No++
		}
		m = append(m, b)
	}
	return m
}

// TestEveryEmpty holds the same of all graphs of four blocks with nothing in them. (P14.2, P14.4)
func TestEveryEmpty(t *testing.T) {
	many := 0
	every(4, [][]api.Ins{nil}, func(l []api.Block) {
		if many++; many%7 > 0 {
			return
		}
		c := api.Code{Threads: []api.Graph{{Refs: make([]bool, 1), Blocks: l}}}
		less := tidied(t, c)
		testNoMore(t, c, less)
		testIsTidy(t, less)
	})
}
