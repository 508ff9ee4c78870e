package ir

import "turnstile/api"

// side is where one is: outside of the language's blocks or inside of one; or, as bits put together, where one may be. 0: nowhere, as in what is not reached.
type side uint8

const (
	outside side = 1 << iota
	inside
	both = outside | inside
)

// beginnings answers for each block on which sides it may begin.
func beginnings(g api.Graph) []side {
	begins := make([]side, len(g.Blocks))
	type way struct {
		to int
		on side
	}
	open := []way{{0, outside}}
	for len(open) > 0 {
		w := open[len(open)-1]
		open = open[:len(open)-1]
		if begins[w.to]&w.on != 0 {
			continue
		}
		begins[w.to] |= w.on
		on := w.on
		for _, i := range g.Blocks[w.to].Ins {
			on = behind(i, on)
		}
		for _, to := range next(g.Blocks[w.to]) {
			open = append(open, way{to, on})
		}
	}
	return begins
}

// behind is the side on which it goes on behind an instruction that stands on that side.
func behind(i api.Ins, on side) side {
	switch i.Kind {
	case api.InBegin:
		return inside
	case api.InEnd:
		return outside
	}
	return on
}

// next are the blocks to which one leads.
func next(b api.Block) []int {
	switch b.Last {
	case api.LaJump:
		return []int{b.Yes}
	case api.LaBranch:
		return []int{b.Yes, b.No}
	}
	return nil
}

// firstOnBoth answers the first block that may begin on both sides.
func firstOnBoth(begins []side) (at api.Spot, wrong bool) {
	for n, on := range begins {
		if on == both {
			return api.Spot{Block: n}, true
		}
	}
	return api.Spot{}, false
}

// firstMisplaced answers the first spot that stands on the wrong side. What is not reached stands on none.
func firstMisplaced(g api.Graph, begins []side) (at api.Spot, wrong bool) {
	for n, b := range g.Blocks {
		on := begins[n]
		if on == 0 {
			continue
		}
		for k, i := range b.Ins {
			if insSide(i.Kind)&on == 0 {
				return api.Spot{Block: n, Ins: k}, true
			}
			on = behind(i, on)
		}
		if b.Last == api.LaHalt && on == inside {
			return api.Spot{Block: n, Ins: len(b.Ins)}, true
		}
	}
	return api.Spot{}, false
}

// insSide says on which sides an instruction may stand.
func insSide(kind api.InsKind) side {
	switch kind {
	case api.InNew, api.InLoad, api.InStore, api.InOwnLoad, api.InOwnStore, api.InEnd:
		return inside
	case api.InBegin:
		return outside
	}
	return both
}
