package walk

import (
	"turnstile/api"
	"turnstile/word"
)

// deed is what an instruction of one kind does; it answers whether the leap ends with it.
type deed func(*thread, api.Ins) (leapt bool)

// deeds has no deed of InNone, which stands in no graph that may be.
func deeds() [api.InEnd + 1]deed {
	return [...]deed{
		api.InConst:    (*thread).constant,
		api.InMove:     (*thread).move,
		api.InCalc:     (*thread).calc,
		api.InNil:      (*thread).notNil,
		api.InIndex:    (*thread).index,
		api.InShared:   (*thread).constant,
		api.InNew:      (*thread).made,
		api.InLoad:     (*thread).load,
		api.InStore:    (*thread).store,
		api.InOwnLoad:  (*thread).ownLoad,
		api.InOwnStore: (*thread).ownStore,
		api.InPrint:    (*thread).print,
		api.InBegin:    (*thread).begin,
		api.InEnd:      (*thread).done,
	}
}

// constant is a shared word's number, too.
func (t *thread) constant(i api.Ins) (leapt bool) {
	t.registers[i.A] = i.N
	return false
}

func (t *thread) move(i api.Ins) (leapt bool) {
	t.registers[i.A] = t.registers[i.B]
	return false
}

func (t *thread) calc(i api.Ins) (leapt bool) {
	n, e := word.Do(i.Calc, t.registers[i.B], t.registers[i.C])
	if e != api.OK {
		return t.fails(api.EndZero)
	}
	t.registers[i.A] = n
	return false
}

func (t *thread) notNil(i api.Ins) (leapt bool) {
	if t.registers[i.B] == 0 {
		return t.fails(api.EndNil)
	}
	return false
}

func (t *thread) index(i api.Ins) (leapt bool) {
	if n := t.registers[i.B]; n < 0 || n >= i.N {
		return t.fails(api.EndIndex)
	}
	return false
}

func (t *thread) made(i api.Ins) (leapt bool) {
	first, ok := t.makes(i.N)
	if !ok {
		return t.fails(api.EndMemory)
	}
	t.registers[i.A] = first
	return false
}

// met is the number of the word that a load or a store meets; false, if there is no such word.
func (t *thread) met(i api.Ins) (at int64, ok bool) {
	at = t.registers[i.B] + i.N
	if i.C >= 0 {
		at += t.registers[i.C]
	}
	return at, t.has(at)
}

func (t *thread) load(i api.Ins) (leapt bool) {
	at, ok := t.met(i)
	if !ok {
		return t.fails(api.EndFault)
	}
	t.registers[i.A] = t.words[at]
	return false
}

func (t *thread) store(i api.Ins) (leapt bool) {
	at, ok := t.met(i)
	if !ok {
		return t.fails(api.EndFault)
	}
	// By its number: the words may lie elsewhere, when more of them were made.
	was := t.words[at]
	t.undo = append(t.undo, func() { t.words[at] = was })
	t.words[at] = t.registers[i.A]
	return false
}

func (t *thread) ownLoad(i api.Ins) (leapt bool) {
	t.own(i)
	return t.load(i)
}

func (t *thread) ownStore(i api.Ins) (leapt bool) {
	t.own(i)
	return t.store(i)
}

// own takes down whether a word is met that was there ahead of the block.
func (t *thread) own(i api.Ins) {
	if at, ok := t.met(i); ok && at < t.since {
		t.strange = true
	}
}

func (t *thread) print(i api.Ins) (leapt bool) {
	n := t.registers[i.B]
	if t.inside {
		t.waiting = append(t.waiting, n)
		return false
	}
	t.told = append(t.told, n)
	return true
}

func (t *thread) begin(api.Ins) (leapt bool) {
	t.inside = true
	t.since = int64(len(t.words))
	t.undo = append(t.undo, func() {
		t.words = t.words[:t.since]
		t.waiting = nil
	})
	return false
}

// done is behind a block: what that has done can't be undone any more.
func (t *thread) done(api.Ins) (leapt bool) {
	t.inside = false
	t.undo = nil
	return true
}
