package ir_test

import (
	"fmt"
	"math/rand"
	"strings"
	"testing"

	"turnstile/api"
	"turnstile/ir"
)

// maker makes graphs by chance: such as may be, and such as are a little wrong.
type maker struct{ *rand.Rand }

func newMaker(seed int64) maker { return maker{rand.New(rand.NewSource(seed))} }

func (m maker) chance(percent int) bool { return m.Intn(100) < percent }

// one is one of a list's, by chance.
func one[T any](m maker, l ...T) T { return l[m.Intn(len(l))] }

// code is a program of graphs that may be.
func (m maker) code() api.Code {
	c := api.Code{Words: 1 + m.Intn(9)}
	for range m.Intn(4) {
		c.Threads = append(c.Threads, m.graph(c.Words))
	}
	return c
}

// graph has registers of both sorts, and blocks each of which begins on one side by chance, block 0 outside.
func (m maker) graph(shared int) api.Graph {
	g := api.Graph{Refs: sorts("nr"), Sites: m.Intn(6), Blocks: make([]api.Block, 1+m.Intn(6))}
	for range m.Intn(5) {
		g.Refs = append(g.Refs, m.chance(50))
	}
	inside := make([]bool, len(g.Blocks))
	for n := range inside {
		inside[n] = n > 0 && m.chance(50)
	}
	site := 0
	for n := range g.Blocks {
		on := inside[n]
		b := &g.Blocks[n]
		add := func(i api.Ins) {
			b.Ins = append(b.Ins, i)
			switch i.Kind {
			case api.InBegin:
				on = true
			case api.InEnd:
				on = false
			}
		}
		for range m.Intn(5) {
			add(m.ins(g, shared, on, &site))
		}
		to := m.other(inside, on)
		if to < 0 {
			// No block begins on this side.
			add(end())
			to = 0
		}
		switch {
		case m.chance(40):
			*b = jump(to, b.Ins...)
		case m.chance(60) || on:
			*b = branch(m.register(g, false), to, m.other(inside, on), b.Ins...)
		default:
			*b = halt(b.Ins...)
		}
	}
	return g
}

// other is a block that begins on a side; -1, if there is none.
func (m maker) other(inside []bool, on bool) int {
	var l []int
	for n := range inside {
		if inside[n] == on {
			l = append(l, n)
		}
	}
	if l == nil {
		return -1
	}
	return one(m, l...)
}

func (m maker) register(g api.Graph, reference bool) int {
	for {
		if r := m.Intn(len(g.Refs)); g.Refs[r] == reference {
			return r
		}
	}
}

// ins is an instruction that may stand on a side.
func (m maker) ins(g api.Graph, words int, inside bool, site *int) api.Ins {
	number := func() int { return m.register(g, false) }
	reference := func() int { return m.register(g, true) }
	switch k := m.Intn(16); {
	case k < 2:
		if m.chance(50) {
			return constant(reference(), 0)
		}
		return constant(number(), one(m, 0, 1, -1, m.Int63(), -m.Int63()))
	case k < 3:
		if m.chance(50) {
			return move(reference(), reference())
		}
		return move(number(), number())
	case k < 5:
		if m.chance(30) {
			return calc(one(m, api.CalcEq, api.CalcNe), number(), reference(), reference())
		}
		return calc(api.CalcAdd+api.Calc(m.Intn(14)), number(), number(), number())
	case k < 6:
		return isNil(reference())
	case k < 7:
		return index(number(), 1+m.Int63n(64))
	case k < 8:
		return shared(reference(), 1+m.Int63n(int64(words)))
	case k < 9:
		return tell(number())
	case !inside:
		return begin()
	case k < 10 && *site < g.Sites:
		*site++
		return made(reference(), 1+m.Int63n(64), *site-1)
	case k < 14:
		return access(one(m, accesses()...), m.Intn(len(g.Refs)), reference(), one(m, -1, number()), m.Int63n(65))
	}
	return end()
}

// someNumber is one that may be, or may not, wherever it is laid.
func (m maker) someNumber() int {
	return one(m, 0, 0, 1, 1, 2, 3, 4, 5, 6, 7, 9, 10, -1, -2, 64, 65, 1<<32, -1<<63)
}

// edit changes one thing of a program.
func (m maker) edit(c *api.Code) {
	if len(c.Threads) == 0 || m.chance(3) {
		c.Words = one(m, -1, 0, 1, 5, 65536, 65537)
		return
	}
	g := &c.Threads[m.Intn(len(c.Threads))]
	if len(g.Blocks) == 0 || m.chance(15) {
		m.editGraph(g)
		return
	}
	b := &g.Blocks[m.Intn(len(g.Blocks))]
	if len(b.Ins) == 0 || m.chance(30) {
		m.editEnd(b)
		return
	}
	k := m.Intn(len(b.Ins))
	i := &b.Ins[k]
	switch m.Intn(12) {
	case 0:
		i.Kind = api.InsKind(m.Intn(17))
	case 1:
		i.Calc = api.Calc(m.Intn(17))
	case 2:
		i.A = m.someNumber()
	case 3:
		i.B = m.someNumber()
	case 4:
		i.C = m.someNumber()
	case 5:
		i.N = int64(m.someNumber())
	case 6, 7, 8:
		b.Ins = append(b.Ins[:k], b.Ins[k+1:]...)
	case 9, 10:
		b.Ins = append(append(append([]api.Ins{}, b.Ins[:k]...), one(m, begin(), end(), tell(0), access(api.InLoad, 0, 1, -1, 0))), b.Ins[k:]...)
	case 11:
		at := m.Intn(len(b.Ins))
		b.Ins[k], b.Ins[at] = b.Ins[at], b.Ins[k]
	}
}

func (m maker) editGraph(g *api.Graph) {
	switch r := m.Intn(len(g.Refs) + 1); m.Intn(5) {
	case 0:
		g.Sites = one(m, -1, 0, 1, 2, 8192, 8193)
	case 1:
		g.Blocks = g.Blocks[:m.Intn(len(g.Blocks)+1)]
	case 2:
		g.Blocks = append(g.Blocks, halt(), jump(m.someNumber()))
	case 3:
		g.Refs = append([]bool{}, g.Refs[:r]...)
	case 4:
		for k := range g.Refs {
			if k == r {
				g.Refs[k] = !g.Refs[k]
			}
		}
	}
}

func (m maker) editEnd(b *api.Block) {
	switch m.Intn(7) {
	case 0:
		b.Last = api.LastKind(m.Intn(6))
	case 1:
		b.Reg = m.someNumber()
	case 2, 3:
		b.Yes = m.someNumber()
	case 4:
		b.No = m.someNumber()
	case 5:
		*b = halt(b.Ins...)
	case 6:
		*b = jump(m.Intn(4), b.Ins...)
	}
}

// tally counts what was found.
type tally map[string]int

func (c tally) wants(t *testing.T, many int, kinds ...string) {
	t.Helper()
	for _, kind := range kinds {
		if c[kind] < many {
			t.Errorf("%s: %d times alone, of %v", kind, c[kind], c)
		}
	}
}

// kindOf is what was found of a program, for a tally.
func kindOf(c api.Code, f found) string {
	if f.e == api.OK {
		return "right"
	}
	if f.e == api.ErrLimit {
		return "limit"
	}
	if f.thread >= len(c.Threads) || len(c.Threads[f.thread].Blocks) == 0 || c.Threads[f.thread].Sites < 0 || c.Words < 0 {
		return "whole"
	}
	w := words{c.Threads[f.thread], c.Words}
	if _, wrong := w.firstByItself(); wrong {
		return "spot"
	}
	begins := w.begins()
	if n := f.at.Block; begins["outside"][n]+begins["inside"][n] == 2 {
		return "both"
	}
	return "side"
}

// someCodes hands on programs by chance, of which some are right and some are not.
func someCodes(seed int64, many int, test func(m maker, c api.Code)) {
	m := newMaker(seed)
	for range many {
		c := m.code()
		for range one(m, 0, 1, 1, 2, 4) {
			m.edit(&c)
		}
		test(m, c)
	}
}

// TestGraphsByChance holds Check, Text and Parse of many programs against the chapter's words. (P9.1 to P9.3)
func TestGraphsByChance(t *testing.T) {
	l := tally{}
	someCodes(91, 12000, func(m maker, c api.Code) {
		want := foundByWords(c)
		l[kindOf(c, want)]++
		testCheck(t, fmt.Sprintf("%+v", c), c, want)
		text := textByWords(c)
		if want.e == api.OK {
			testTold(t, c, text)
		} else {
			testUntold(t, fmt.Sprintf("%+v", c), c, want.e)
		}
		testParse(t, text)
	})
	l.wants(t, 100, "right", "limit", "whole", "spot", "both", "side")
}

// TestGraphsMade holds that those which the tests make without an edit may be.
func TestGraphsMade(t *testing.T) {
	m := newMaker(92)
	told := tally{}
	for range 2000 {
		c := m.code()
		testCheck(t, fmt.Sprintf("%+v", c), c, nothing())
		s, _ := ir.Text(c)
		for _, l := range strings.Split(s, "\n") {
			name, rest, _ := strings.Cut(l, " ")
			if name == "calc" {
				name, _, _ = strings.Cut(rest, " ")
			}
			told[name]++
		}
	}
	told.wants(t, 20, append(append(kindNames(), lastNames()...), calcNames()...)[3:]...)
}

// someBytes are put into texts: those that stand in texts, and such as do not.
func someBytes() string { return "\n\n  019-rbx\r\t\x00\xff+5" }

// editText changes bytes or lines of a text.
func (m maker) editText(s string) string {
	if s == "" {
		return "\n"
	}
	at := m.Intn(len(s))
	b := someBytes()[m.Intn(len(someBytes()))]
	l := strings.SplitAfter(s, "\n")
	n, k := m.Intn(len(l)), m.Intn(len(l))
	switch m.Intn(7) {
	case 0:
		return s[:at] + s[at+1:]
	case 1:
		return s[:at] + string([]byte{b}) + s[at+1:]
	case 2:
		return s[:at] + string([]byte{b}) + s[at:]
	case 3:
		return s[:at]
	case 4:
		l[n], l[k] = l[k], l[n]
	case 5:
		l[n] = ""
	case 6:
		l[n] += l[k]
	}
	return strings.Join(l, "")
}

// TestTextsByChance holds Parse of many texts against the chapter's words. (P9.3)
func TestTextsByChance(t *testing.T) {
	l := map[api.Errno]int{}
	someCodes(93, 6000, func(m maker, c api.Code) {
		text := textByWords(c)
		for range 3 {
			edited := m.editText(text)
			if m.chance(20) {
				edited = m.editText(edited)
			}
			_, e := testParse(t, edited)
			l[e]++
		}
	})
	for _, e := range []api.Errno{api.OK, api.ErrForm, api.ErrGraph, api.ErrLimit} {
		if l[e] < 100 {
			t.Errorf("the error %d: %d times alone", e, l[e])
		}
	}
}

// TestEachByte holds Parse of a text with each byte left out, each byte made another one, and one more at each place, against the chapter's words. (P9.3)
func TestEachByte(t *testing.T) {
	_, text := everyKind()
	text = lines(text)
	testParse(t, text)
	for at := range len(text) {
		testParse(t, text[:at]+text[at+1:])
		testParse(t, text[:at])
		for n := range someBytes() {
			b := someBytes()[n : n+1]
			testParse(t, text[:at]+b+text[at+1:])
			testParse(t, text[:at]+b+text[at:])
		}
	}
}

// TestEachLine holds Parse of a text with each line left out, and with each of its lines at each place, against the chapter's words. (P9.3)
func TestEachLine(t *testing.T) {
	_, text := everyKind()
	l := strings.SplitAfter(lines(text), "\n")
	l = l[:len(l)-1]
	more := map[string]int{"\n": 1, "thread 1025 0 x\n": 1, "thread 4 0\n": 1}
	for _, line := range l {
		more[line] = 1
	}
	for n := range l {
		ahead, behind := strings.Join(l[:n], ""), strings.Join(l[n:], "")
		testParse(t, ahead+strings.Join(l[n+1:], ""))
		for line := range more {
			testParse(t, ahead+line+behind)
			testParse(t, ahead+line+strings.Join(l[n+1:], ""))
		}
	}
}
