package live

import "turnstile/api"

// next are the blocks to which one leads, each once.
func next(b api.Block) []int {
	switch {
	case b.Last == api.LaHalt:
		return nil
	case b.Last == api.LaJump || b.Yes == b.No:
		return []int{b.Yes}
	}
	return []int{b.Yes, b.No}
}

// beginnings answers for each block, one that is not reached too, the registers that are live at its beginning.
func beginnings(g api.Graph) []set {
	in := make([]set, len(g.Blocks))
	does := make([]deed, len(g.Blocks))
	// The settled ones that lead to each block.
	ahead := make([][]int, len(g.Blocks))
	// grow goes back along the ways to a block at whose beginning more is live than was known. What is new somewhere is so once, so no way meets a block again, and this never goes deeper than there are blocks.
	var grow func(n int, live set)
	grow = func(n int, live set) {
		live = live.less(in[n])
		if live == (set{}) {
			return
		}
		in[n] = in[n].with(live)
		for _, from := range ahead[n] {
			grow(from, live.less(does[from].changes))
		}
	}
	met := make([]bool, len(g.Blocks))
	// settle does those to which a block leads ahead of it: only where loops go back there is more to grow then.
	var settle func(n int)
	settle = func(n int) {
		met[n] = true
		for _, to := range next(g.Blocks[n]) {
			if !met[to] {
				settle(to)
			}
		}
		var behind set
		for _, to := range next(g.Blocks[n]) {
			behind = behind.with(in[to])
			ahead[to] = append(ahead[to], n)
		}
		does[n] = deedFrom(g.Blocks[n], 0)
		grow(n, does[n].ahead(behind))
	}
	for n := range g.Blocks {
		if !met[n] {
			settle(n)
		}
	}
	return in
}

// liveAt are the registers that are live at a spot.
func liveAt(g api.Graph, s api.Spot) set {
	b, in := g.Blocks[s.Block], beginnings(g)
	var behind set
	for _, to := range next(b) {
		behind = behind.with(in[to])
	}
	return deedFrom(b, s.Ins).ahead(behind)
}

// changedWithin are the registers that are changed on some way on from a spot, up to an InEnd.
func changedWithin(g api.Graph, s api.Spot) (all set) {
	met := make([]bool, len(g.Blocks))
	var along func(s api.Spot)
	along = func(s api.Spot) {
		b := g.Blocks[s.Block]
		for _, i := range b.Ins[s.Ins:] {
			if i.Kind == api.InEnd {
				return
			}
			all.put(changed(i))
		}
		for _, to := range next(b) {
			if !met[to] {
				met[to] = true
				along(api.Spot{Block: to})
			}
		}
	}
	along(s)
	return all
}
