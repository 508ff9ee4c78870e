package tidy

import "turnstile/api"

// next are the blocks to which one leads.
func next(b api.Block) []int {
	switch b.Last {
	case api.LaJump:
		return []int{b.Yes}
	case api.LaBranch:
		return []int{b.Yes, b.No}
	}
	return nil
}

// leading is a block that leads elsewhere: whereto is said for each block to which it led.
func leading(b api.Block, elsewhere func(to int) int) api.Block {
	switch b.Last {
	case api.LaJump:
		b.Yes = elsewhere(b.Yes)
	case api.LaBranch:
		b.Yes, b.No = elsewhere(b.Yes), elsewhere(b.No)
	}
	return b
}

// jumping is a block that leads to one alone, whatever registers hold.
func jumping(b api.Block, to int) api.Block {
	return api.Block{Ins: b.Ins, Last: api.LaJump, Yes: to}
}

// past is where one comes to from a block, past all those in which there is nothing but a jump: up to one in which there is more, one that jumps to itself, or the one from which one came.
func past(g api.Graph, from, to int) int {
	at := to
	// Longer than this it goes round and round in a ring.
	for range g.Blocks {
		b := g.Blocks[at]
		if len(b.Ins) > 0 || b.Last != api.LaJump || b.Yes == at || at == from {
			return at
		}
		at = b.Yes
	}
	return to
}
