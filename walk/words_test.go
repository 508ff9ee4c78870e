package walk_test

import (
	"maps"
	"slices"

	"turnstile/api"
	"turnstile/word"
)

// meaning is the chapter's words, written out once more for one run: told apart from the program's own ways. Between two leaps all that there is stands in one value, which a leap only reads: it makes another one, and what is undone, or not made, is left behind by going on with the old one.
type meaning struct {
	api.Code
	fuel int
	all  everything
}

type everything struct {
	// words are by their numbers those that there are.
	words   map[int64]int64
	threads []standing
	steps   int
	strange bool
}

type standing struct {
	block, ins int
	registers  []int64
	wait, told []int64
	end        api.EndKind
}

func (s standing) copied() standing {
	s.registers, s.wait, s.told = slices.Clone(s.registers), slices.Clone(s.wait), slices.Clone(s.told)
	return s
}

func (a everything) copied() everything {
	a.words = maps.Clone(a.words)
	a.threads = slices.Clone(a.threads)
	for n, s := range a.threads {
		a.threads[n] = s.copied()
	}
	return a
}

func meaningOf(c api.Code, fuel int) *meaning {
	m := &meaning{Code: c, fuel: fuel, all: everything{words: map[int64]int64{}}}
	for n := range c.Words {
		m.all.words[int64(n)+1] = 0
	}
	for _, g := range c.Threads {
		m.all.threads = append(m.all.threads, standing{registers: make([]int64, len(g.Refs))})
	}
	return m
}

// run is what Run answers.
func (m *meaning) run(picks []int) (a answer) {
	for _, i := range picks {
		if m.leap(i) == "short" {
			a.Short = true
			break
		}
	}
	for _, s := range m.all.threads {
		a.Seen = append(a.Seen, api.Seen{Out: s.told, End: s.end})
	}
	a.Strange = m.all.strange
	return a
}

// leap answers what a pick does.
func (m *meaning) leap(i int) string {
	if i < 0 || i >= len(m.all.threads) || m.all.threads[i].end != api.EndNone {
		return "nothing"
	}
	next := m.all.copied()
	s := &next.threads[i]
	if len(s.wait) > 0 {
		s.told, s.wait = append(s.told, s.wait[0]), s.wait[1:]
		m.all = next
		return "waited"
	}
	l := leaping{ahead: m.all.words, everything: &next, standing: s, graph: m.Threads[i]}
	for {
		if next.steps == m.fuel {
			m.all.strange = next.strange
			return "short"
		}
		next.steps++
		if what := l.step(); what != "" {
			if s.end != api.EndNone && s.end != api.EndDone {
				next.words, s.wait = m.all.words, nil
			}
			m.all = next
			return what
		}
	}
}

// leaping is a thread in the midst of a leap.
type leaping struct {
	// ahead are the words as they were ahead of the leap, and so ahead of an InBegin in it.
	ahead map[int64]int64
	*everything
	*standing
	graph  api.Graph
	inside bool
}

func (l *leaping) fails(end api.EndKind) string {
	l.end = end
	if l.inside {
		return "failed block"
	}
	return "failed"
}

// step answers how the leap ends, if it does.
func (l *leaping) step() string {
	b := l.graph.Blocks[l.block]
	if l.ins < len(b.Ins) {
		l.ins++
		return l.does(b.Ins[l.ins-1])
	}
	l.ins = 0
	if b.Last == api.LaHalt {
		l.end = api.EndDone
		return "end"
	}
	l.block = b.Yes
	if b.Last == api.LaBranch && l.registers[b.Reg] == 0 {
		l.block = b.No
	}
	return ""
}

func (l *leaping) does(i api.Ins) string {
	r := l.registers
	switch i.Kind {
	case api.InConst, api.InShared:
		r[i.A] = i.N
	case api.InMove:
		r[i.A] = r[i.B]
	case api.InCalc:
		n, e := word.Do(i.Calc, r[i.B], r[i.C])
		if e == api.ErrZero {
			return l.fails(api.EndZero)
		}
		r[i.A] = n
	case api.InNil:
		if r[i.B] == 0 {
			return l.fails(api.EndNil)
		}
	case api.InIndex:
		if !(0 <= r[i.B] && r[i.B] <= i.N-1) {
			return l.fails(api.EndIndex)
		}
	case api.InPrint:
		if !l.inside {
			l.told = append(l.told, r[i.B])
			return "print"
		}
		l.wait = append(l.wait, r[i.B])
	case api.InBegin:
		l.inside = true
	case api.InEnd:
		return "block"
	default:
		return l.touches(i)
	}
	return ""
}

func (l *leaping) touches(i api.Ins) string {
	r := l.registers
	if i.Kind == api.InNew {
		first := int64(len(l.words)) + 1
		if first+i.N-1 > 65536 {
			return l.fails(api.EndMemory)
		}
		for n := range i.N {
			l.words[first+n] = 0
		}
		r[i.A] = first
		return ""
	}
	at := uint64(r[i.B]) + uint64(i.N)
	if i.C != -1 {
		at += uint64(r[i.C])
	}
	had, ok := l.words[int64(at)]
	if !ok {
		return l.fails(api.EndFault)
	}
	if i.Kind == api.InOwnLoad || i.Kind == api.InOwnStore {
		if _, old := l.ahead[int64(at)]; old {
			l.strange = true
		}
	}
	if i.Kind == api.InLoad || i.Kind == api.InOwnLoad {
		r[i.A] = had
	} else {
		l.words[int64(at)] = r[i.A]
	}
	return ""
}
