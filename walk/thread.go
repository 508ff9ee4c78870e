package walk

import (
	"slices"

	"turnstile/api"
)

// thread stands between two of its leaps.
type thread struct {
	*world
	graph     api.Graph
	registers []int64
	// at is the place of what comes next.
	at api.Spot
	// inside: a block of the language has begun and not ended.
	inside bool
	// since is the number that the first word has which that block makes.
	since int64
	// undo takes back what that block has done, the first thing ahead.
	undo []func()
	told []int64
	// waiting are the prints of a block that was done, or is being done.
	waiting []int64
	end     api.EndKind
}

func newThreads(c api.Code, w *world) []*thread {
	threads := make([]*thread, 0, len(c.Threads))
	for _, g := range c.Threads {
		threads = append(threads, &thread{world: w, graph: g, registers: make([]int64, len(g.Refs))})
	}
	return threads
}

// leap answers whether the fuel does for it; one that does nothing needs none.
func (t *thread) leap() (made bool) {
	switch {
	case len(t.waiting) > 0:
		t.told = append(t.told, t.waiting[0])
		t.waiting = t.waiting[1:]
		return true
	case t.end != api.EndNone:
		return true
	}
	return t.goOn()
}

// goOn takes up the thread where it stands. A leap that is not made leaves behind what it has done: it is the last one of the run, and nothing of that can be seen, but that it was strange.
func (t *thread) goOn() (made bool) {
	for t.step() {
		if t.next() {
			return true
		}
	}
	return false
}

// next does what comes next, and answers whether the leap ends with it.
func (t *thread) next() (leapt bool) {
	b := &t.graph.Blocks[t.at.Block]
	if t.at.Ins == len(b.Ins) {
		return t.last(b)
	}
	i := b.Ins[t.at.Ins]
	t.at.Ins++
	return t.deeds[i.Kind](t, i)
}

func (t *thread) last(b *api.Block) (leapt bool) {
	switch {
	case b.Last == api.LaHalt:
		t.end = api.EndDone
		return true
	case b.Last == api.LaBranch && t.registers[b.Reg] == 0:
		t.at = api.Spot{Block: b.No}
	default:
		t.at = api.Spot{Block: b.Yes}
	}
	return false
}

// fails ends the thread by an error. Of a block in the midst of which it stands nothing is left.
func (t *thread) fails(end api.EndKind) (leapt bool) {
	for _, back := range slices.Backward(t.undo) {
		back()
	}
	t.end = end
	return true
}
