package flow_test

import (
	"math/rand"
	"slices"
	"testing"

	"turnstile/api"
)

// maker makes graphs that may be by chance.
type maker struct{ *rand.Rand }

func newMaker(seed int64) maker { return maker{rand.New(rand.NewSource(seed))} }

func (m maker) chance(percent int) bool { return m.Intn(100) < percent }

// one is one of a list's, by chance.
func one[T any](m maker, l ...T) T { return l[m.Intn(len(l))] }

// graph has blocks each of which begins on one side by chance, block 0 outside.
func (m maker) graph() api.Graph {
	g := graph(make([]api.Block, 1+m.Intn(one(m, 3, 6, 12, 24)))...)
	inside := make([]bool, len(g.Blocks))
	if share := one(m, 0, 0, 30, 60); share > 0 {
		for n := range inside {
			inside[n] = n > 0 && m.chance(share)
		}
	}
	// How far an end leads: to blocks near by, or to any; and how often it halts.
	reach, halts := one(m, 2, 4, 100), one(m, 2, 10, 40)
	for n := range g.Blocks {
		g.Blocks[n] = m.block(n, inside, reach, halts)
	}
	return g
}

func (m maker) block(n int, inside []bool, reach, halts int) (b api.Block) {
	on := inside[n]
	for range m.Intn(4) {
		kind := api.InPrint
		switch {
		case m.chance(40) && !on:
			kind, on = api.InBegin, true
		case m.chance(40) && on:
			kind, on = api.InEnd, false
		}
		b.Ins = append(b.Ins, api.Ins{Kind: kind})
	}
	var l []int
	for to := max(0, n-reach); to < min(n+reach+1, len(inside)); to++ {
		if inside[to] == on {
			l = append(l, to)
		}
	}
	if l == nil || !on && m.chance(halts) {
		if on {
			b.Ins = append(b.Ins, api.Ins{Kind: api.InEnd})
		}
		b.Last = api.LaHalt
		return b
	}
	b.Last, b.Yes = api.LaJump, one(m, l...)
	if m.chance(70) {
		b.Last, b.No = api.LaBranch, one(m, l...)
	}
	return b
}

// tally counts what was met.
type tally map[string]int

func (c tally) wants(t *testing.T, least int, kinds ...string) {
	t.Helper()
	for _, k := range kinds {
		if c[k] < least {
			t.Errorf("%s: %d times, of %v", k, c[k], c)
		}
	}
}

func (c tally) count(kind string, is bool) {
	if is {
		c[kind]++
	}
}

// of counts which sorts of graphs there are.
func (c tally) of(g api.Graph, a answer) {
	c.count("not reached", slices.Contains(a.reach, false))
	c.count("inside", slices.Contains(a.inside, true))
	c.count("back to block 0", len(a.ahead[0]) > 0)
	c.count("many blocks", len(g.Blocks) > 12)
	on := everyWay(g)
	for n, b := range g.Blocks {
		loop := slices.Contains(a.ahead[n], n)
		c.count("a block ahead of itself", loop)
		c.count("both ways to one block", a.reach[n] && b.Last == api.LaBranch && b.Yes == b.No)
		c.count("many ahead", len(a.ahead[n]) > 2)
		c.count("a Dom far away", a.dom[n] > 0 && !slices.Contains(a.ahead[n], a.dom[n]))
		// One that leads to a block which lies on no way to it, though there is a way back.
		for _, from := range a.ahead[n] {
			c.count("a loop of several ways in", from != n && !on[n][from] && !on[from][n] && leadsOn(g, n)[from])
		}
	}
}

// leadsOn says to which blocks there is a way from one.
func leadsOn(g api.Graph, from int) []bool {
	met := make([]bool, len(g.Blocks))
	for open := []int{from}; len(open) > 0; {
		b := g.Blocks[open[0]]
		open = open[1:]
		for to := range g.Blocks {
			if leads(b, to) && !met[to] {
				met[to] = true
				open = append(open, to)
			}
		}
	}
	return met
}

// each hands on so many graphs, always the same ones.
func each(seed int64, many int, test func(m maker, g api.Graph)) {
	m := newMaker(seed)
	for range many {
		test(m, m.graph())
	}
}

// TestByChance holds the four answers against the chapter's words: of Dom, what is still reached when a block is taken out. (P12.1 to P12.4)
func TestByChance(t *testing.T) {
	c := tally{}
	each(12, 6000, func(m maker, g api.Graph) {
		want := byWords(g)
		testTexts(t, g, want.texts())
		c.of(g, want)
	})
	c.wants(t, 300, "not reached", "inside", "back to block 0", "many blocks", "a block ahead of itself", "both ways to one block", "many ahead", "a loop of several ways in")
	c.wants(t, 100, "a Dom far away")
}

// TestAllSmallOnes holds the four answers of all graphs of up to three blocks without instructions against the chapter's words. (P12.1 to P12.4)
func TestAllSmallOnes(t *testing.T) {
	for many := 1; many <= 3; many++ {
		var ends []api.Block
		ends = append(ends, api.Block{Last: api.LaHalt})
		for yes := range many {
			ends = append(ends, api.Block{Last: api.LaJump, Yes: yes})
			for no := range many {
				ends = append(ends, api.Block{Last: api.LaBranch, Yes: yes, No: no})
			}
		}
		all := 1
		for range many {
			all *= len(ends)
		}
		for pick := range all {
			g := graph()
			for range many {
				g.Blocks = append(g.Blocks, ends[pick%len(ends)])
				pick /= len(ends)
			}
			testTexts(t, g, byWords(g).texts())
		}
	}
}
