package tidy_test

import (
	"reflect"
	"slices"
	"testing"

	"turnstile/api"
	"turnstile/live"
	"turnstile/word"
)

// attempts is a thread whose blocks of the language may be given up and gone through again, as those of a machine are that meet another thread's: what walk does not have. Of its registers those are given back which live.Saved names; of the others that were changed nothing is left.
type attempts struct {
	*testing.T
	maker
	api.Graph
	met              tally
	words, registers []int64
	at               api.Spot
	seen             api.Seen
	// begun is how it stood at the InBegin of the block in which it is, if it is in one.
	begun *attempts
	// again is how many times that block may still be given up.
	again int
}

// copied is how it stands, to come back to.
func (a attempts) copied() *attempts {
	a.words, a.registers, a.seen.Out = slices.Clone(a.words), slices.Clone(a.registers), slices.Clone(a.seen.Out)
	return &a
}

// run goes on till the thread ends, or has taken so many steps, and says whether it has ended.
func (a *attempts) run(steps int, mayGiveUp bool) (ended bool) {
	for ; steps > 0 && a.seen.End == api.EndNone; steps-- {
		if mayGiveUp && a.begun != nil && a.again > 0 && a.chance(8) {
			a.giveUp()
		}
		a.step()
	}
	if a.seen.End > api.EndDone && a.begun != nil {
		a.words, a.seen.Out = a.begun.words, a.begun.seen.Out
	}
	return a.seen.End != api.EndNone
}

func (a *attempts) giveUp() {
	saved, e := live.Saved(a.Graph, a.begun.at)
	if e != api.OK {
		a.Fatalf("live finds the error %d at %v", e, a.begun.at)
	}
	a.met.count("given up", true)
	a.met.count("given back", len(saved) > 0)
	was := a.begun.copied()
	for r := range a.registers {
		if slices.Contains(saved, r) {
			a.registers[r] = was.registers[r]
		} else if a.registers[r] != was.registers[r] {
			a.registers[r] = -77 - int64(a.Intn(1000))
		}
	}
	a.words, a.seen.Out = was.words, was.seen.Out
	a.at = api.Spot{Block: was.at.Block, Ins: was.at.Ins + 1}
	a.again--
}

func (a *attempts) step() {
	b := a.Blocks[a.at.Block]
	if a.at.Ins < len(b.Ins) {
		if i := b.Ins[a.at.Ins]; i.Kind == api.InBegin {
			a.begun, a.again = a.copied(), a.Intn(4)
		} else {
			a.does(i)
		}
		a.at.Ins++
		return
	}
	switch {
	case b.Last == api.LaHalt:
		a.seen.End = api.EndDone
	case b.Last == api.LaBranch && a.registers[b.Reg] == 0:
		a.at = api.Spot{Block: b.No}
	default:
		a.at = api.Spot{Block: b.Yes}
	}
}

func (a *attempts) endsIf(is bool, end api.EndKind) {
	if is {
		a.seen.End = end
	}
}

func (a *attempts) does(i api.Ins) {
	r := a.registers
	switch i.Kind {
	case api.InConst, api.InShared:
		r[i.A] = i.N
	case api.InMove:
		r[i.A] = r[i.B]
	case api.InCalc:
		n, e := word.Do(i.Calc, r[i.B], r[i.C])
		a.endsIf(e != api.OK, api.EndZero)
		r[i.A] = n
	case api.InNil:
		a.endsIf(r[i.B] == 0, api.EndNil)
	case api.InIndex:
		a.endsIf(r[i.B] < 0 || r[i.B] >= i.N, api.EndIndex)
	case api.InPrint:
		a.seen.Out = append(a.seen.Out, r[i.B])
	case api.InEnd:
		a.begun = nil
	case api.InNew:
		r[i.A] = int64(len(a.words))
		a.words = append(a.words, make([]int64, i.N)...)
	default:
		a.meets(i)
	}
}

func (a *attempts) meets(i api.Ins) {
	at := a.registers[i.B] + i.N
	if i.C >= 0 {
		at += a.registers[i.C]
	}
	switch {
	case at < 1 || at >= int64(len(a.words)):
		a.seen.End = api.EndFault
	case i.Kind == api.InLoad || i.Kind == api.InOwnLoad:
		a.registers[i.A] = a.words[at]
	default:
		a.words[at] = a.registers[i.A]
	}
}

// TestGivenUp holds that blocks of what was answered may be given up and gone through again, and tell what was told where none is. (P14.3)
func TestGivenUp(t *testing.T) {
	c := tally{}
	each(t, 141, 1500, func(m maker, code api.Code) {
		less := tidied(t, code)
		for i, g := range less.Threads {
			first := make([]int64, code.Words+1)
			for n := range inputs {
				first[n+1] = m.number()
			}
			start := func(g api.Graph) *attempts {
				return &attempts{T: t, maker: m, Graph: g, met: c, words: slices.Clone(first), registers: make([]int64, len(g.Refs))}
			}
			was := start(code.Threads[i])
			if !was.run(200, false) {
				continue
			}
			for range 3 {
				now := start(g)
				if !now.run(1000, true) {
					continue
				}
				c.count("ended", true)
				c.count("told", len(now.seen.Out) > 0)
				if !reflect.DeepEqual(now.seen, was.seen) || !slices.Equal(now.words, was.words) {
					t.Fatalf("%s\n%+v %v\n%s\n%+v %v", tell(code.Threads[i]), was.seen, was.words, tell(g), now.seen, now.words)
				}
			}
		}
	})
	c.wants(t, 1000, "ended", "told", "given up")
	c.wants(t, 200, "given back")
}

// TestGivenBack holds the same of a block written out, given up at each place: what is asked again in it, ahead of being changed, is given back. (P14.3)
func TestGivenBack(t *testing.T) {
	c := read(t, "const r0 5; const r1 1; jump 1 | begin; shared r4 1; load r2 r4 - 0; calc add r2 r2 r0; store r2 r4 - 0; calc sub r0 r0 r1; move r3 r2; const r2 9; print r0; end; print r3; branch r0 1 2 | halt")
	testAll(t, c)
	less := tidied(t, c)
	want := []int64{4, 5, 3, 9, 2, 12, 1, 14, 0, 15}
	m, met := newMaker(142), tally{}
	for range 300 {
		a := attempts{T: t, maker: m, Graph: less.Threads[0], met: met, words: make([]int64, 8), registers: make([]int64, 8)}
		if !a.run(1000, true) || !slices.Equal(a.seen.Out, want) || a.seen.End != api.EndDone {
			t.Fatalf("%s: %+v", tellAll(less), a.seen)
		}
	}
	met.wants(t, 300, "given up", "given back")
}
