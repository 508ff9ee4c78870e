package tidy

import (
	"slices"

	"turnstile/api"
	"turnstile/flow"
)

// joined is a graph of the blocks that are reached, in which two are one where the first leads to the second alone, and no other one does. They stand as ordered has them. All its lists are new.
func joined(g api.Graph) api.Graph {
	ahead, _ := flow.Ahead(g)
	first := past(g, none, 0)
	// The numbers that blocks have now; one that is in another one has none.
	number := make([]int, len(g.Blocks))
	var blocks []api.Block
	for _, n := range ordered(g, first) {
		if number[n] == none {
			continue
		}
		b := g.Blocks[n]
		b.Ins = append([]api.Ins(nil), b.Ins...)
		for b.Last == api.LaJump && b.Yes != first && len(ahead[b.Yes]) == 1 {
			number[b.Yes] = none
			second := g.Blocks[b.Yes]
			second.Ins = append(b.Ins, second.Ins...)
			b = second
		}
		number[n] = len(blocks)
		blocks = append(blocks, b)
	}
	for n, b := range blocks {
		blocks[n] = leading(b, func(to int) int { return number[to] })
	}
	return api.Graph{Refs: append([]bool(nil), g.Refs...), Sites: g.Sites, Blocks: blocks}
}

// ordered are the blocks to which there is a way from the first one, each behind those that lead to it, but where loops lead back; and of a branch what comes at yes mostly ahead of what comes else.
func ordered(g api.Graph, first int) (order []int) {
	met := make([]bool, len(g.Blocks))
	// From behind: a block is put there when all to which it leads are.
	var visit func(n int)
	visit = func(n int) {
		met[n] = true
		for _, to := range slices.Backward(next(g.Blocks[n])) {
			if !met[to] {
				visit(to)
			}
		}
		order = append(order, n)
	}
	visit(first)
	slices.Reverse(order)
	return order
}
