package tidy

import (
	"slices"

	"turnstile/api"
	"turnstile/flow"
)

// swept is a graph without what only changes a register that nothing asks for, and whose ways lead past blocks with nothing in them. It is gone through from behind: so what goes lets go at once what was there for it alone.
func swept(g api.Graph) api.Graph {
	in := wanted(g)
	g.Blocks = slices.Clone(g.Blocks)
	for n, b := range slices.Backward(g.Blocks) {
		b = leading(b, func(to int) int { return past(g, n, to) })
		if b.Last == api.LaBranch && b.Yes == b.No {
			b = jumping(b, b.Yes)
		}
		asked := behind(b, in)
		var stay []api.Ins
		for _, i := range slices.Backward(b.Ins) {
			if asked.back(i) {
				stay = append(stay, i)
			}
		}
		slices.Reverse(stay)
		b.Ins = stay
		g.Blocks[n], in[n] = b, asked
	}
	return g
}

// wanted answers for each block the registers that are asked for at its beginning. These are fewer than live has: what would go itself asks for nothing, as round a loop such instructions would hold each other.
func wanted(g api.Graph) []registers {
	ahead, _ := flow.Ahead(g)
	in := make([]registers, len(g.Blocks))
	// Those of which it is to be seen whether more is asked for.
	open := slices.Repeat([]bool{true}, len(g.Blocks))
	see := func(n int) {
		if !open[n] {
			return
		}
		open[n] = false
		asked := behind(g.Blocks[n], in)
		for _, i := range slices.Backward(g.Blocks[n].Ins) {
			asked.back(i)
		}
		if asked == in[n] {
			return
		}
		in[n] = asked
		for _, from := range ahead[n] {
			open[from] = true
		}
	}
	// To and fro, as what is asked for is handed on against the order of the blocks, and along it where loops lead back.
	for slices.Contains(open, true) {
		for n := range slices.Backward(open) {
			see(n)
		}
		for n := range open {
			see(n)
		}
	}
	return in
}

// behind are the registers that are asked for at a block's end, of which is said what is asked for at the blocks' beginnings.
func behind(b api.Block, in []registers) (asked registers) {
	switch b.Last {
	case api.LaJump:
		return in[b.Yes]
	case api.LaBranch:
		asked = in[b.Yes].with(in[b.No])
		asked.put(b.Reg)
	}
	return asked
}

// back goes from the registers that are asked for behind an instruction to those ahead of it. It says whether the instruction stays, as it does more than to change a register, or changes one of these.
func (s *registers) back(i api.Ins) (stays bool) {
	r := changed(i)
	if spare(i) && !s.has(r) {
		return false
	}
	s.take(r)
	for _, r := range asks(i) {
		s.put(r)
	}
	return true
}
