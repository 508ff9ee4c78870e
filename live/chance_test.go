package live_test

import (
	"math/rand"
	"slices"
	"testing"

	"turnstile/api"
)

// maker makes graphs that may be by chance.
type maker struct{ *rand.Rand }

func newMaker(seed int64) maker { return maker{rand.New(rand.NewSource(seed))} }

func (m maker) chance(percent int) bool { return m.Intn(100) < percent }

// one is one of a list's, by chance.
func one[T any](m maker, l ...T) T { return l[m.Intn(len(l))] }

// sorts are the registers that a graph's instructions name.
type sorts struct{ numbers, refs []int }

// sorts picks some registers of some or of all that there may be, at least one of each sort.
func (m maker) sorts(g *api.Graph) (s sorts) {
	g.Refs = make([]bool, one(m, 4, 4, 6, 6, 9, 70, 300, api.MaxRegs))
	l := m.Perm(len(g.Refs))[:2+m.Intn(min(len(g.Refs)-1, 7))]
	for n, r := range l {
		if n == 1 || n > 1 && m.chance(40) {
			g.Refs[r] = true
			s.refs = append(s.refs, r)
		} else {
			s.numbers = append(s.numbers, r)
		}
	}
	return s
}

// graph has blocks each of which begins on one side by chance, block 0 outside.
func (m maker) graph() (g api.Graph) {
	s := m.sorts(&g)
	g.Blocks = make([]api.Block, 1+m.Intn(one(m, 2, 4, 8, 16)))
	inside := make([]bool, len(g.Blocks))
	if share := one(m, 0, 30, 60, 80); share > 0 {
		for n := range inside {
			inside[n] = n > 0 && m.chance(share)
		}
	}
	// How far an end leads: to blocks near by, or to any; and how often it halts.
	reach, halts := one(m, 2, 4, 100), one(m, 2, 10, 40)
	for n := range g.Blocks {
		g.Blocks[n] = m.block(&g, s, n, inside, reach, halts)
	}
	for n, is := range reached(g) {
		if !is && m.chance(50) {
			g.Blocks[n].Ins = m.anything(&g, s)
		}
	}
	return g
}

func (m maker) block(g *api.Graph, s sorts, n int, inside []bool, reach, halts int) (b api.Block) {
	on := inside[n]
	for range m.Intn(5) {
		switch {
		case m.chance(25) && !on:
			b.Ins, on = append(b.Ins, api.Ins{Kind: api.InBegin}), true
		case m.chance(15) && on:
			b.Ins, on = append(b.Ins, api.Ins{Kind: api.InEnd}), false
		default:
			b.Ins = append(b.Ins, m.ins(g, s, on))
		}
	}
	var l []int
	for to := max(0, n-reach); to < min(n+reach+1, len(inside)); to++ {
		if inside[to] == on {
			l = append(l, to)
		}
	}
	if l == nil || !on && m.chance(halts) {
		if on {
			b.Ins = append(b.Ins, api.Ins{Kind: api.InEnd})
		}
		b.Last = api.LaHalt
		return b
	}
	b.Last, b.Yes = api.LaJump, one(m, l...)
	if m.chance(60) {
		b.Last, b.No, b.Reg = api.LaBranch, one(m, l...), one(m, s.numbers...)
	}
	return b
}

// ins is an instruction that may stand on a side.
func (m maker) ins(g *api.Graph, s sorts, inside bool) api.Ins {
	number, ref, either := one(m, s.numbers...), one(m, s.refs...), one(m, slices.Concat(s.refs, s.numbers)...)
	index := one(m, -1, one(m, s.numbers...))
	kinds := []api.InsKind{api.InConst, api.InConst, api.InMove, api.InCalc, api.InCalc, api.InNil, api.InIndex, api.InShared, api.InPrint}
	if inside {
		kinds = append(kinds, api.InNew, api.InLoad, api.InStore, api.InOwnLoad, api.InOwnStore)
	}
	i := api.Ins{Kind: one(m, kinds...)}
	switch i.Kind {
	case api.InConst:
		i.A = either
	case api.InMove:
		i.A, i.B = number, one(m, s.numbers...)
		if m.chance(40) {
			i.A, i.B = ref, one(m, s.refs...)
		}
	case api.InCalc:
		i.Calc, i.A, i.B, i.C = api.CalcAdd, number, one(m, s.numbers...), one(m, s.numbers...)
		if m.chance(30) {
			i.Calc, i.B, i.C = api.CalcEq, ref, one(m, s.refs...)
		}
	case api.InNil:
		i.B = ref
	case api.InIndex:
		i.B, i.N = number, 4
	case api.InShared:
		i.A, i.N = ref, 1
	case api.InNew:
		i.A, i.N, i.C = ref, 1, g.Sites
		g.Sites++
	case api.InPrint:
		i.B = number
	default:
		i.A, i.B, i.C = either, ref, index
	}
	return i
}

// anything are instructions of all kinds, on whatever side.
func (m maker) anything(g *api.Graph, s sorts) (l []api.Ins) {
	for range m.Intn(7) {
		switch m.Intn(5) {
		case 0:
			l = append(l, api.Ins{Kind: api.InBegin})
		case 1:
			l = append(l, api.Ins{Kind: api.InEnd})
		default:
			l = append(l, m.ins(g, s, true))
		}
	}
	return l
}

// reached says to which blocks there is a way.
func reached(g api.Graph) []bool {
	met := make([]bool, len(g.Blocks))
	for open := []int{0}; len(open) > 0; {
		n := open[len(open)-1]
		open = open[:len(open)-1]
		if met[n] {
			continue
		}
		met[n] = true
		open = append(open, leadsTo(g.Blocks[n])...)
	}
	return met
}

func leadsTo(b api.Block) []int {
	switch b.Last {
	case api.LaJump:
		return []int{b.Yes}
	case api.LaBranch:
		return []int{b.Yes, b.No}
	}
	return nil
}

// tally counts what was met.
type tally map[string]int

func (c tally) wants(t *testing.T, least int, kinds ...string) {
	t.Helper()
	for _, k := range kinds {
		if c[k] < least {
			t.Errorf("%s: %d times, of %v", k, c[k], c)
		}
	}
}

func (c tally) count(kind string, is bool) {
	if is {
		c[kind]++
	}
}

// of counts which sorts of graphs there are.
func (c tally) of(t *testing.T, g api.Graph) {
	c.count("not reached", slices.Contains(reached(g), false))
	c.count("high registers", len(g.Refs) > 64)
	for n, b := range g.Blocks {
		to := leadsTo(b)
		c.count("back to block 0", slices.Contains(to, 0))
		c.count("to itself", slices.Contains(to, n))
		c.count("both ways to one block", b.Last == api.LaBranch && b.Yes == b.No)
		live := in(t, g)[n]
		c.count("nothing live", len(live) == 0)
		c.count("many live", len(live) > 3)
		for _, next := range to {
			c.count("live on one way alone", len(to) == 2 && !slices.Equal(in(t, g)[next], at(t, g, spot(n, len(b.Ins)))))
		}
	}
	for _, s := range spots(g) {
		if !isBegin(g, s) {
			continue
		}
		l, behind := saved(t, g, s), at(t, g, spot(s.Block, s.Ins+1))
		c.count("nothing saved", len(l) == 0)
		c.count("some saved", len(l) > 0)
		c.count("some live that are not saved", len(l) > 0 && len(l) < len(behind))
		c.count("not reached begins", !reached(g)[s.Block])
	}
}

// each hands on so many graphs, always the same ones.
func each(seed int64, many int, test func(m maker, g api.Graph)) {
	m := newMaker(seed)
	for range many {
		test(m, m.graph())
	}
}

// TestByChance holds the three calls' answers at all spots against the words, gone along way by way. (P13.1 to P13.3)
func TestByChance(t *testing.T) {
	c := tally{}
	each(13, 4000, func(m maker, g api.Graph) {
		if found(g) != api.OK {
			t.Fatalf("%+v: the error %d", g, found(g))
		}
		testByWords(t, g)
		c.of(t, g)
	})
	c.wants(t, 300, "not reached", "high registers", "back to block 0", "to itself", "both ways to one block", "nothing live", "many live", "live on one way alone", "nothing saved", "some saved", "some live that are not saved", "not reached begins")
}

// TestWaysByChance goes along ways by chance: what is asked on one ahead of being changed is live where it begins; and what is changed on one ahead of an InEnd is saved, if it is live. (P13.1 to P13.3)
func TestWaysByChance(t *testing.T) {
	each(132, 1500, func(m maker, g api.Graph) {
		w := wordsOf(g)
		for range 10 {
			from := m.Intn(len(w.spots))
			s := w.spots[from]
			asked, changed := w.along(m, from)
			live := at(t, g, s)
			for _, r := range asked {
				if !slices.Contains(live, r) {
					t.Errorf("%s: %d is asked behind %v, where %v are live", textOf(g), r, s, live)
				}
			}
			if s.Ins == 0 || !isBegin(g, spot(s.Block, s.Ins-1)) {
				continue
			}
			l := saved(t, g, spot(s.Block, s.Ins-1))
			for _, r := range changed {
				if slices.Contains(live, r) && !slices.Contains(l, r) {
					t.Errorf("%s: %d is changed behind %v, where %v are saved", textOf(g), r, s, l)
				}
			}
		}
	})
}

// along goes along a way: which registers are asked on it ahead of being changed, and which ones are changed ahead of an InEnd.
func (w words) along(m maker, n int) (asked, within []int) {
	var changed []int
	over := false
	for range 60 {
		over = over || w.isEnd(n)
		for r := range w.Refs {
			if w.asks[r][n] && !slices.Contains(changed, r) {
				asked = append(asked, r)
			}
		}
		for r := range w.Refs {
			if w.changes[r][n] {
				changed = append(changed, r)
				if !over {
					within = append(within, r)
				}
			}
		}
		if len(w.on[n]) == 0 {
			break
		}
		n = one(m, w.on[n]...)
	}
	return asked, within
}
