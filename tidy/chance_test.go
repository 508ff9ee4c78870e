package tidy_test

import (
	"math/rand"
	"slices"
	"testing"

	"turnstile/api"
	"turnstile/ir"
)

// maker makes graphs that may be by chance.
type maker struct{ *rand.Rand }

func newMaker(seed int64) maker { return maker{rand.New(rand.NewSource(seed))} }

func (m maker) chance(percent int) bool { return m.Intn(100) < percent }

// one is one of a list's, by chance.
func one[T any](m maker, l ...T) T { return l[m.Intn(len(l))] }

// inputs is how many shared words the first thread sets, from which others have numbers of which nothing is known ahead.
const inputs = 4

func (m maker) code() api.Code {
	c := api.Code{Words: 6}
	if m.chance(1) {
		c.Words = api.MaxHeap - m.Intn(90)
	}
	c.Threads = []api.Graph{m.setting()}
	for range 1 + m.Intn(2) {
		g := m.graph()
		if m.chance(20) {
			g = lifted(g, one(m, 1, 50, 60, 64, 200, api.MaxRegs-8))
		}
		c.Threads = append(c.Threads, g)
	}
	return c
}

// setting is a thread that gives the first shared words numbers.
func (m maker) setting() api.Graph {
	l := []api.Ins{{Kind: api.InBegin}, {Kind: api.InShared, A: 1, N: 1}}
	for n := range inputs {
		l = append(l, api.Ins{Kind: api.InConst, N: m.number()}, api.Ins{Kind: api.InStore, B: 1, C: -1, N: int64(n)})
	}
	return api.Graph{Refs: []bool{false, true}, Blocks: []api.Block{{Ins: append(l, api.Ins{Kind: api.InEnd}), Last: api.LaHalt}}}
}

// set is the same program with other numbers of those.
func (m maker) set(c api.Code) api.Code {
	c.Threads = slices.Clone(c.Threads)
	c.Threads[0] = m.setting()
	return c
}

func (m maker) number() int64 {
	return one(m, 0, 0, 0, 1, 1, 2, 3, -1, -2, 5, m.Int63(), -m.Int63())
}

// lifted has the same registers with numbers that are greater by so many.
func lifted(g api.Graph, by int) api.Graph {
	g.Refs = append(make([]bool, by), g.Refs...)
	for n := range g.Blocks {
		b := &g.Blocks[n]
		if b.Last == api.LaBranch {
			b.Reg += by
		}
		for k := range b.Ins {
			i := &b.Ins[k]
			switch i.Kind {
			case api.InConst, api.InShared, api.InNew:
				i.A += by
			case api.InNil, api.InIndex, api.InPrint:
				i.B += by
			case api.InMove:
				i.A, i.B = i.A+by, i.B+by
			case api.InCalc, api.InLoad, api.InStore, api.InOwnLoad, api.InOwnStore:
				i.A, i.B = i.A+by, i.B+by
				if i.C >= 0 {
					i.C += by
				}
			}
		}
	}
	return g
}

// shape is what a graph by chance is like.
type shape struct {
	// inside are the blocks that begin within a block of the language.
	inside []bool
	// How often, of a hundred times, a block has nothing in it, an end is a branch, a branch is by a constant, a way leads back, and an end is a halt.
	empty, branch, constant, back, halt int
	// reach is how far on ways lead.
	reach int
}

// graph has the numbers' registers 0 to 3 and those of references 4 to 7, and blocks each of which begins on one side by chance, block 0 outside.
func (m maker) graph() api.Graph {
	s := shape{make([]bool, 1+m.Intn(one(m, 2, 5, 9, 20, 30))), one(m, 5, 30, 60), one(m, 30, 60, 80, 95), one(m, 0, 0, 10, 50), one(m, 0, 20, 40), one(m, 0, 3, 20), one(m, 2, 4, 8, 100)}
	if share := one(m, 0, 0, 40, 60); share > 0 {
		for n := range s.inside {
			s.inside[n] = n > 0 && m.chance(share)
		}
	}
	g := api.Graph{Refs: []bool{false, false, false, false, true, true, true, true}, Blocks: make([]api.Block, len(s.inside))}
	for n := range g.Blocks {
		m.block(&g, n, s)
	}
	return g
}

func (m maker) block(g *api.Graph, n int, s shape) {
	on := s.inside[n]
	b := &g.Blocks[n]
	if n == 0 && m.chance(80) {
		b.Ins = m.numbers()
	}
	if !m.chance(s.empty) {
		for range m.Intn(7) {
			l := m.some(g, on)
			b.Ins = append(b.Ins, l...)
			for _, i := range l {
				on = on && i.Kind != api.InEnd || i.Kind == api.InBegin
			}
		}
	}
	m.end(b, n, s, on)
}

// numbers give registers numbers, most of them such that are not known.
func (m maker) numbers() (l []api.Ins) {
	l = []api.Ins{{Kind: api.InBegin}, {Kind: api.InShared, A: 4, N: 1}}
	for r := range 4 {
		if m.chance(70) {
			l = append(l, api.Ins{Kind: api.InLoad, A: r, B: 4, C: -1, N: m.Int63n(inputs)})
		} else {
			l = append(l, api.Ins{Kind: api.InConst, A: r, N: m.number()})
		}
	}
	return append(l, api.Ins{Kind: api.InEnd})
}

// end ends a block that has come to a side.
func (m maker) end(b *api.Block, n int, s shape, on bool) {
	l := m.ways(n, s, on)
	if l == nil && on {
		b.Ins = append(b.Ins, api.Ins{Kind: api.InEnd})
		on = false
		l = m.ways(n, s, on)
	}
	if l == nil || !on && m.chance(s.halt) {
		b.Last = api.LaHalt
		return
	}
	b.Last, b.Yes = api.LaJump, one(m, l...)
	if m.chance(s.branch) {
		b.Last, b.Reg, b.No = api.LaBranch, m.Intn(4), one(m, l...)
		if m.chance(s.constant) {
			b.Ins = append(b.Ins, api.Ins{Kind: api.InConst, A: b.Reg, N: m.number()})
		}
	}
}

// ways are blocks to which one may lead that has come to a side.
func (m maker) ways(n int, s shape, on bool) (l []int) {
	for to := max(0, n-s.reach); to < min(n+s.reach+1, len(s.inside)); to++ {
		if s.inside[to] == on && (to > n || m.chance(s.back)) {
			l = append(l, to)
		}
	}
	return l
}

// some are instructions that may stand on a side, one behind the other.
func (m maker) some(g *api.Graph, inside bool) []api.Ins {
	number, ref := m.Intn(4), 4+m.Intn(4)
	switch k := m.Intn(40); {
	case k < 5:
		return []api.Ins{{Kind: api.InConst, A: number, N: m.number()}}
	case k < 8:
		return []api.Ins{one(m, api.Ins{Kind: api.InMove, A: number, B: m.Intn(4)}, api.Ins{Kind: api.InMove, A: ref, B: 4 + m.Intn(4)}, api.Ins{Kind: api.InConst, A: ref})}
	case k < 14:
		return []api.Ins{m.calc()}
	case k < 15:
		return []api.Ins{one(m, api.Ins{Kind: api.InNil, B: ref}, api.Ins{Kind: api.InIndex, B: number, N: 1 + m.Int63n(64)})}
	case k < 18:
		return []api.Ins{m.shared(ref)}
	case k < 26:
		return []api.Ins{{Kind: api.InPrint, B: number}}
	case !inside && k < 32:
		return nil
	case !inside:
		return []api.Ins{{Kind: api.InBegin}}
	case k < 28:
		g.Sites++
		return []api.Ins{{Kind: api.InNew, A: ref, N: one[int64](m, 1, 1, 2, 3, 64), C: g.Sites - 1}}
	case k < 30:
		return []api.Ins{{Kind: api.InEnd}}
	}
	return m.access(g)
}

func (m maker) shared(r int) api.Ins { return api.Ins{Kind: api.InShared, A: r, N: 1 + m.Int63n(6)} }

func (m maker) calc() api.Ins {
	if m.chance(20) {
		return api.Ins{Kind: api.InCalc, Calc: one(m, api.CalcEq, api.CalcNe), A: m.Intn(4), B: 4 + m.Intn(4), C: 4 + m.Intn(4)}
	}
	return api.Ins{Kind: api.InCalc, Calc: api.CalcAdd + api.Calc(m.Intn(14)), A: m.Intn(4), B: m.Intn(4), C: m.Intn(4)}
}

// access is a load or a store, mostly of a word that there is: B was made or named right ahead.
func (m maker) access(g *api.Graph) (l []api.Ins) {
	b := 4 + m.Intn(4)
	own := m.chance(40)
	switch {
	case own && m.chance(70) || m.chance(20):
		g.Sites++
		l = append(l, api.Ins{Kind: api.InNew, A: b, N: 4, C: g.Sites - 1})
	case m.chance(90):
		l = append(l, m.shared(b))
	}
	for range 1 + m.Intn(3) {
		i := api.Ins{Kind: one(m, api.InLoad, api.InStore), A: m.Intn(8), B: b, C: -1, N: one[int64](m, 0, 0, 0, 0, 0, 1, 2)}
		if own {
			i.Kind += api.InOwnLoad - api.InLoad
		}
		if m.chance(10) {
			i.C = m.Intn(4)
		}
		// Mostly it goes on with the same B.
		if i.A == b && m.chance(80) {
			i.A = 0
		}
		l = append(l, i)
	}
	return l
}

// picks begin with the thread that sets words, mostly.
func (m maker) picks(threads int) (l []int) {
	if m.chance(80) {
		l = []int{0}
	}
	for range m.Intn(30) {
		i := m.Intn(threads)
		if m.chance(5) {
			i = m.Intn(9) - 4
		}
		l = append(l, slices.Repeat([]int{i}, 1+m.Intn(3))...)
	}
	return l
}

// tally counts what was met.
type tally map[string]int

func (c tally) wants(t *testing.T, least int, kinds ...string) {
	t.Helper()
	for _, k := range kinds {
		if c[k] < least {
			t.Errorf("%s: %d times, of %v", k, c[k], c)
		}
	}
}

func (c tally) count(kind string, is bool) {
	if is {
		c[kind]++
	}
}

// ran counts how threads stand.
func (c tally) ran(w api.Walked) {
	c.count("strange", w.Strange)
	for _, s := range w.Seen[1:] {
		c.count("several told", len(s.Out) > 1)
		c.count([...]string{"goes on", "done", "zero", "nil", "index", "memory", "", "", "fault"}[s.End], true)
	}
}

// became counts what was taken from graphs.
func (c tally) became(was, g api.Graph) {
	c.count("blocks go", len(g.Blocks) < len(was.Blocks))
	c.count("one block of many", len(g.Blocks) == 1 && len(was.Blocks) > 4)
	c.count("many blocks stay", len(g.Blocks) > 5)
	c.count("instructions go", len(instructions(g)) < len(instructions(was)))
	c.count("constants go", of(g, api.InConst) < of(was, api.InConst))
	c.count("constants come", comes(was, g, api.InConst))
	c.count("operations go", of(g, api.InCalc) < of(was, api.InCalc))
	c.count("branches go", branches(g) < branches(was))
	c.count("branches stay", branches(g) > 0)
}

// comes says whether there is an instruction of a kind that there was not.
func comes(was, g api.Graph, kind api.InsKind) bool {
	return slices.ContainsFunc(instructions(g), func(i api.Ins) bool { return i.Kind == kind && !slices.Contains(instructions(was), i) })
}

// each hands on so many programs of graphs, always the same ones.
func each(t *testing.T, seed int64, many int, test func(m maker, c api.Code)) {
	t.Helper()
	m := newMaker(seed)
	for range many {
		c := m.code()
		if thread, at, e := ir.Check(c); e != api.OK {
			t.Fatalf("%+v: ir finds the error %d at %d, %v", c, e, thread, at)
		}
		test(m, c)
	}
}

// TestByChance holds all promises for programs by chance, with picks and with numbers that are not known ahead by chance. (P14.1 to P14.4)
func TestByChance(t *testing.T) {
	for seed := range int64(8) {
		t.Run("", func(t *testing.T) {
			t.Parallel()
			testByChance(t, 140+seed)
		})
	}
}

func testByChance(t *testing.T, seed int64) {
	c := tally{}
	each(t, seed, 700, func(m maker, code api.Code) {
		less := tidied(t, code)
		testOne(t, code, less)
		testNoMore(t, code, less)
		testIsTidy(t, less)
		for i, g := range less.Threads[1:] {
			c.became(code.Threads[1+i], g)
		}
		for range 4 {
			// What is tidied hangs on the thread alone, so the first one may be another one now.
			code = m.set(code)
			less.Threads[0] = tidied(t, code).Threads[0]
			c.ran(testSame(t, code, less, m.picks(len(code.Threads))))
		}
	})
	c.wants(t, 12, "blocks go", "one block of many", "many blocks stay", "instructions go", "constants go", "constants come", "operations go", "branches go", "branches stay")
	c.wants(t, 20, "strange", "several told", "goes on", "done", "zero", "nil", "index", "fault")
}

// TestTidiedIsTheSame holds that what was answered becomes itself, to the last instruction. (P14.1, P14.4)
func TestTidiedIsTheSame(t *testing.T) {
	each(t, 149, 3000, func(m maker, c api.Code) {
		less := tidied(t, c)
		if got, want := tellAll(tidied(t, less)), tellAll(less); got != want {
			t.Errorf("%s\nbecomes %s", want, got)
		}
	})
}
