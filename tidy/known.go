package tidy

import (
	"maps"

	"turnstile/api"
	"turnstile/word"
)

// known is what is known of registers: which number each one holds, or of one of references which word it names. Of those that are not in it nothing is known.
type known map[int]int64

// only is what is known of the registers of a list.
func (k known) only(l []int) known {
	some := make(known, min(len(l), len(k)))
	for _, r := range l {
		if n, ok := k[r]; ok {
			some[r] = n
		}
	}
	return some
}

// common leaves what another one knows alike, and says whether that is less than there was.
func (k known) common(other known) (less bool) {
	before := len(k)
	maps.DeleteFunc(k, func(r int, n int64) bool {
		m, ok := other[r]
		return !ok || m != n
	})
	return len(k) < before
}

// block goes through a block at whose beginning so much is known, up to its end. It answers the block with what is found put in.
func (k known) block(b api.Block, refs []bool) api.Block {
	l := make([]api.Ins, 0, len(b.Ins))
	for _, i := range b.Ins {
		if !idle(i) {
			l = append(l, k.ins(i, refs))
		}
	}
	b.Ins = l
	if b.Last != api.LaBranch {
		return b
	}
	switch n, ok := k[b.Reg]; {
	case ok && n != 0:
		return jumping(b, b.Yes)
	case ok:
		return jumping(b, b.No)
	}
	return b
}

// ins goes through an instruction. It answers one that does the same: a constant, if it is known what its register becomes.
func (k known) ins(i api.Ins, refs []bool) api.Ins {
	if n, ok := k.makes(i); ok {
		i = constant(i.A, n, refs[i.A])
	}
	if i.Kind == api.InConst || i.Kind == api.InShared {
		k[i.A] = i.N
	} else {
		delete(k, changed(i))
	}
	return i
}

// makes is what an instruction's register becomes, if that can be worked out; of what ends the thread it can't.
func (k known) makes(i api.Ins) (n int64, ok bool) {
	b, knowsB := k[i.B]
	c, knowsC := k[i.C]
	switch {
	case i.Kind == api.InMove:
		return b, knowsB
	case i.Kind == api.InCalc && knowsB && knowsC:
		n, e := word.Do(i.Calc, b, c)
		return n, e == api.OK
	}
	return 0, false
}

// constant makes a number of a register; of one of references nil, or a shared word: no others are known.
func constant(r int, n int64, ref bool) api.Ins {
	if ref && n != 0 {
		return api.Ins{Kind: api.InShared, A: r, N: n}
	}
	return api.Ins{Kind: api.InConst, A: r, N: n}
}
