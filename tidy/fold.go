package tidy

import (
	"maps"
	"slices"

	"turnstile/api"
	"turnstile/flow"
	"turnstile/live"
)

// folded is a graph in which what can be worked out is a constant, and a branch by what is known a jump. A block begins with what all know alike that come to it; and none comes there by a branch that always goes the other way.
func folded(g api.Graph) api.Graph {
	keeps := carried(g)
	blocks := slices.Clone(g.Blocks)
	// What is known at the beginning of each block that was come to. It only grows less; then the block is gone through again.
	begins := make([]known, len(blocks))
	begins[0] = known{}
	open := make([]bool, len(blocks))
	open[0] = true
	for slices.Contains(open, true) {
		for n := range blocks {
			if !open[n] {
				continue
			}
			open[n] = false
			k := maps.Clone(begins[n])
			blocks[n] = k.block(g.Blocks[n], g.Refs)
			for _, to := range next(blocks[n]) {
				switch {
				case begins[to] == nil:
					begins[to] = k.only(keeps[to])
				case !begins[to].common(k):
					continue
				}
				open[to] = true
			}
		}
	}
	g.Blocks = blocks
	return g
}

// carried are the registers of which it is kept, for each block's beginning, what is known there: those that are asked again. Where a loop leads back there are none: what is known there would hang on what is found out behind it, and might have to be found out again for each register.
func carried(g api.Graph) [][]int {
	asked, _ := live.In(g)
	ahead, _ := flow.Ahead(g)
	for n, l := range ahead {
		if len(l) > 0 && l[len(l)-1] >= n {
			asked[n] = nil
		}
	}
	return asked
}
