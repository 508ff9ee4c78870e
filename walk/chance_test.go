package walk_test

import (
	"math/rand"
	"slices"
	"testing"

	"turnstile/api"
	"turnstile/ir"
)

// maker makes graphs that may be by chance.
type maker struct{ *rand.Rand }

func newMaker(seed int64) maker { return maker{rand.New(rand.NewSource(seed))} }

func (m maker) chance(percent int) bool { return m.Intn(100) < percent }

// one is one of a list's, by chance.
func one[T any](m maker, l ...T) T { return l[m.Intn(len(l))] }

func (m maker) code() api.Code {
	c := api.Code{Words: 1 + m.Intn(6)}
	if m.chance(3) {
		c.Words = api.MaxHeap - m.Intn(9)
	}
	for range 1 + m.Intn(3) {
		c.Threads = append(c.Threads, m.graph(c.Words))
	}
	return c
}

// graph has the numbers' registers 0 to 3 and those of references 4 to 7, and blocks each of which begins on one side by chance, block 0 outside.
func (m maker) graph(shared int) api.Graph {
	g := api.Graph{Refs: []bool{false, false, false, false, true, true, true, true}, Blocks: make([]api.Block, 1+m.Intn(6))}
	inside := make([]bool, len(g.Blocks))
	for n := range inside {
		inside[n] = n > 0 && m.chance(40)
	}
	for n := range g.Blocks {
		on := inside[n]
		b := &g.Blocks[n]
		if n == 0 {
			b.Ins = m.numbers()
		}
		for range m.Intn(7) {
			l := m.some(&g, shared, on)
			b.Ins = append(b.Ins, l...)
			for _, i := range l {
				on = on && i.Kind != api.InEnd || i.Kind == api.InBegin
			}
		}
		m.end(b, n, inside, on)
	}
	return g
}

func (m maker) numbers() (l []api.Ins) {
	for r := range 4 {
		l = append(l, api.Ins{Kind: api.InConst, A: r, N: int64(m.Intn(5) - 1)})
	}
	return l
}

// end ends a block that has come to a side.
func (m maker) end(b *api.Block, n int, inside []bool, on bool) {
	var l []int
	for to := range inside {
		// Mostly onward: there is the less that never ends.
		if inside[to] == on && (to > n || m.chance(40)) {
			l = append(l, to)
		}
	}
	if l == nil || !on && m.chance(20) {
		if on {
			b.Ins = append(b.Ins, api.Ins{Kind: api.InEnd})
		}
		b.Last = api.LaHalt
		return
	}
	b.Last, b.Yes = api.LaJump, one(m, l...)
	if m.chance(50) {
		b.Last, b.Reg, b.No = api.LaBranch, m.Intn(4), one(m, l...)
	}
}

// some are instructions that may stand on a side, one behind the other.
func (m maker) some(g *api.Graph, words int, inside bool) []api.Ins {
	shared := func(r int) api.Ins { return api.Ins{Kind: api.InShared, A: r, N: 1 + m.Int63n(int64(min(words, 6)))} }
	switch k := m.Intn(24); {
	case k < 2:
		return []api.Ins{{Kind: api.InConst, A: m.Intn(4), N: one(m, 0, 1, 2, 3, -1, -2, 5, m.Int63(), -m.Int63())}}
	case k < 3:
		return []api.Ins{one(m, api.Ins{Kind: api.InMove, A: m.Intn(4), B: m.Intn(4)}, api.Ins{Kind: api.InMove, A: 4 + m.Intn(4), B: 4 + m.Intn(4)}, api.Ins{Kind: api.InConst, A: 4 + m.Intn(4)})}
	case k < 6:
		return []api.Ins{m.calc()}
	case k < 7 && m.chance(40):
		return []api.Ins{{Kind: api.InNil, B: 4 + m.Intn(4)}}
	case k < 8 && m.chance(50):
		return []api.Ins{{Kind: api.InIndex, B: m.Intn(4), N: 1 + m.Int63n(64)}}
	case k < 9:
		return []api.Ins{shared(4 + m.Intn(4))}
	case k < 11:
		return []api.Ins{{Kind: api.InPrint, B: m.Intn(4)}}
	case !inside && k < 13:
		return nil
	case !inside:
		return []api.Ins{{Kind: api.InBegin}}
	case k < 14:
		g.Sites++
		return []api.Ins{{Kind: api.InNew, A: 4 + m.Intn(4), N: one[int64](m, 1, 1, 2, 3, 64), C: g.Sites - 1}}
	case k < 16:
		return []api.Ins{{Kind: api.InEnd}}
	}
	return m.access(g, shared)
}

func (m maker) calc() api.Ins {
	if m.chance(20) {
		return api.Ins{Kind: api.InCalc, Calc: one(m, api.CalcEq, api.CalcNe), A: m.Intn(4), B: 4 + m.Intn(4), C: 4 + m.Intn(4)}
	}
	return api.Ins{Kind: api.InCalc, Calc: api.CalcAdd + api.Calc(m.Intn(14)), A: m.Intn(4), B: m.Intn(4), C: m.Intn(4)}
}

// access is a load or a store, mostly of a word that there is: B was made or named right ahead.
func (m maker) access(g *api.Graph, shared func(int) api.Ins) (l []api.Ins) {
	b := 4 + m.Intn(4)
	own := m.chance(40)
	switch {
	case own && m.chance(70) || m.chance(20):
		g.Sites++
		l = append(l, api.Ins{Kind: api.InNew, A: b, N: 4, C: g.Sites - 1})
	case m.chance(80):
		l = append(l, shared(b))
	}
	for range 1 + m.Intn(3) {
		i := api.Ins{Kind: one(m, api.InLoad, api.InStore), A: m.Intn(8), B: b, C: -1, N: one[int64](m, 0, 0, 0, 1, 2, 3)}
		if own {
			i.Kind += api.InOwnLoad - api.InLoad
		}
		if m.chance(15) {
			i.C = m.Intn(4)
		}
		// Mostly it goes on with the same B.
		if i.A == b && m.chance(80) {
			i.A = 0
		}
		l = append(l, i)
	}
	return l
}

func (m maker) picks(threads int) (l []int) {
	for range m.Intn(30) {
		i := m.Intn(threads)
		if m.chance(5) {
			i = m.Intn(9) - 4
		}
		l = append(l, slices.Repeat([]int{i}, 1+m.Intn(3))...)
	}
	return l
}

func (m maker) fuel() int {
	return []int{1 + m.Intn(20), 1 + m.Intn(100), 1 + m.Intn(400), 2000, 2000}[m.Intn(5)]
}

// tally counts what was met.
type tally map[string]int

func (c tally) of(a answer) {
	if a.Short {
		c["short"]++
	}
	if a.Strange {
		c["strange"]++
	}
	for _, s := range a.Seen {
		c[endText(s.End)]++
		if len(s.Out) > 1 {
			c["several told"]++
		}
	}
}

func (c tally) wants(t *testing.T, least int, kinds ...string) {
	t.Helper()
	for _, k := range kinds {
		if c[k] < least {
			t.Errorf("%s: %d times, of %v", k, c[k], c)
		}
	}
}

// each hands on so many programs of graphs, always the same ones.
func each(t *testing.T, seed int64, many int, test func(m maker, c api.Code)) {
	t.Helper()
	m := newMaker(seed)
	for range many {
		c := m.code()
		if thread, at, e := ir.Check(c); e != api.OK {
			t.Fatalf("%+v: ir finds the error %d at %d, %v", c, e, thread, at)
		}
		test(m, c)
	}
}

// TestByChance holds what is told against the chapter's words. (P10.1)
func TestByChance(t *testing.T) {
	c := tally{}
	each(t, 10, 12000, func(m maker, code api.Code) {
		picks, fuel := m.picks(len(code.Threads)), m.fuel()
		if code.Words > 1000 {
			picks = picks[:min(len(picks), 9)]
		}
		want := meaningOf(code, fuel).run(picks)
		c.of(want)
		if got := run(code, picks, fuel); got.String() != want.String() {
			t.Fatalf("%s\nwith the picks %v and the fuel %d: %v, not %v", textOf(code), picks, fuel, got, want)
		}
	})
	c.wants(t, 20, "memory")
	c.wants(t, 200, "short", "strange", "..", "done", "zero", "nil", "index", "fault", "several told")
}
