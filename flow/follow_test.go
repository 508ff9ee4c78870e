package flow_test

import (
	"slices"
	"testing"

	"turnstile/api"
)

// TestSomeBlockAhead holds that each block that is reached, but block 0, has one ahead of it that is reached, and that its Dom is. (P12.5)
func TestSomeBlockAhead(t *testing.T) {
	each(122, 3000, func(m maker, g api.Graph) {
		a := asked(t, g)
		for n := range g.Blocks {
			if n == 0 || !a.reach[n] {
				if a.dom[n] != -1 {
					t.Errorf("%s: the Dom of %d is %d", textOf(g), n, a.dom[n])
				}
				continue
			}
			if len(a.ahead[n]) == 0 || a.dom[n] < 0 || !a.reach[a.dom[n]] {
				t.Errorf("%s: ahead of %d stand %v, its Dom is %d", textOf(g), n, a.ahead[n], a.dom[n])
			}
			for _, from := range a.ahead[n] {
				if !a.reach[from] {
					t.Errorf("%s: ahead of %d stands %d, which is not reached", textOf(g), n, from)
				}
			}
		}
	})
}

// met are the blocks that one meets going from a block from Dom to Dom, the block itself too; nil, if one comes to no end.
func met(dom []int, n int) (l []int) {
	for range dom {
		l = append(l, n)
		if dom[n] < 0 {
			return l
		}
		n = dom[n]
	}
	return nil
}

// TestFromDomToDom holds that one comes to block 0, and that just those blocks are met which lie on every way. (P12.5)
func TestFromDomToDom(t *testing.T) {
	each(123, 3000, func(m maker, g api.Graph) {
		a, on := asked(t, g), everyWay(g)
		for n := range g.Blocks {
			if !a.reach[n] {
				continue
			}
			l := met(a.dom, n)
			if len(l) == 0 || l[len(l)-1] != 0 {
				t.Errorf("%s: from %d, from Dom to Dom, one comes to %v", textOf(g), n, l)
			}
			for other := range g.Blocks {
				if on[other][n] != slices.Contains(l, other) {
					t.Errorf("%s: %d lies on every way to %d: %v; what is met: %v", textOf(g), other, n, on[other][n], l)
				}
			}
		}
	})
}

// moved is a graph with its blocks in another order: to says which number each gets, block 0 being 0 again; the others of so many blocks are new ones.
func moved(g api.Graph, to []int, many int, fresh func() api.Block) api.Graph {
	blocks := make([]api.Block, many)
	for n := range blocks {
		blocks[n] = fresh()
	}
	for n, b := range g.Blocks {
		switch b.Last {
		case api.LaBranch:
			b.Yes, b.No = to[b.Yes], to[b.No]
		case api.LaJump:
			b.Yes = to[b.Yes]
		}
		blocks[to[n]] = b
	}
	g.Blocks = blocks
	return g
}

// unreached is a block of all sorts that may stand among so many where nothing leads to it.
func (m maker) unreached(many int) (b api.Block) {
	for range m.Intn(4) {
		b.Ins = append(b.Ins, one(m, api.Ins{Kind: api.InBegin}, api.Ins{Kind: api.InEnd}, api.Ins{Kind: api.InPrint}, api.Ins{Kind: api.InLoad, B: 3, C: -1}))
	}
	switch m.Intn(3) {
	case 0:
		b.Last = api.LaHalt
	case 1:
		b.Last, b.Yes = api.LaJump, m.Intn(many)
	case 2:
		b.Last, b.Yes, b.No = api.LaBranch, m.Intn(many), m.Intn(many)
	}
	return b
}

// testMoved holds that the blocks that are reached have the answers that they had, by the numbers that they have now.
func testMoved(t *testing.T, g, other api.Graph, to []int) {
	t.Helper()
	a, b := asked(t, g), asked(t, other)
	reached := 0
	for n, is := range a.reach {
		if !is {
			continue
		}
		reached++
		var ahead []int
		for _, from := range a.ahead[n] {
			ahead = append(ahead, to[from])
		}
		slices.Sort(ahead)
		dom := a.dom[n]
		if dom >= 0 {
			dom = to[dom]
		}
		k := to[n]
		if !b.reach[k] || !slices.Equal(b.ahead[k], ahead) || b.dom[k] != dom || b.inside[k] != a.inside[n] {
			t.Errorf("%s: %d is %d in %s: %v %v %d %v, not %v %d %v", textOf(g), n, k, textOf(other), b.reach[k], b.ahead[k], b.dom[k], b.inside[k], ahead, dom, a.inside[n])
		}
	}
	for _, is := range b.reach {
		if is {
			reached--
		}
	}
	if reached != 0 {
		t.Errorf("%s: other blocks are reached than in %s", textOf(other), textOf(g))
	}
}

// TestNotReachedMakesNoDifference holds that blocks which are not reached, put anywhere, or changed, change nothing of the others' answers. (P12.5)
func TestNotReachedMakesNoDifference(t *testing.T) {
	c := tally{}
	each(124, 3000, func(m maker, g api.Graph) {
		many := len(g.Blocks) + m.Intn(5)
		to := append([]int{0}, m.Perm(many)...)
		to = slices.DeleteFunc(to[1:], func(n int) bool { return n == 0 })
		to = append([]int{0}, to...)
		fresh := func() api.Block { return m.unreached(many) }
		testMoved(t, g, moved(g, to, many, fresh), to)
		// Those that are there are changed.
		same := make([]int, len(g.Blocks))
		changed := copied(g)
		for n, is := range without(g, -1) {
			same[n] = n
			if !is {
				changed.Blocks[n] = m.unreached(len(g.Blocks))
				c["changed"]++
			}
		}
		testMoved(t, g, changed, same)
		// They are taken away, from the last one on.
		for last := len(g.Blocks) - 1; !without(g, -1)[last]; last-- {
			if slices.ContainsFunc(g.Blocks[:last], func(b api.Block) bool { return leads(b, last) }) {
				break
			}
			g.Blocks = g.Blocks[:last]
			c["taken away"]++
			testMoved(t, g, changed, same)
		}
	})
	c.wants(t, 300, "changed", "taken away")
}

// TestInstructionsMakeNoDifference holds that which blocks are reached, ahead and on every way hangs on the ends alone. (P12.1 to P12.3)
func TestInstructionsMakeNoDifference(t *testing.T) {
	each(125, 1000, func(m maker, g api.Graph) {
		want := asked(t, g).texts()
		for n := range g.Blocks {
			g.Blocks[n].Ins = make([]api.Ins, m.Intn(3))
			for k := range g.Blocks[n].Ins {
				g.Blocks[n].Ins[k].Kind = api.InPrint
			}
		}
		want[3] = bits(make([]bool, len(g.Blocks)))
		testTexts(t, g, want)
	})
}
