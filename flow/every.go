package flow

import (
	"math/bits"

	"turnstile/api"
)

// none is no block, no place in a list.
const none = -1

// set is a set of blocks: bits, by the places that the blocks have in an order.
type set []uint64

func (s set) put(at int)  { s[at/64] |= 1 << (at % 64) }
func (s set) take(at int) { s[at/64] &^= 1 << (at % 64) }

// last is the greatest place, none of an empty set.
func (s set) last() int {
	for k := len(s) - 1; k >= 0; k-- {
		if s[k] != 0 {
			return k*64 + bits.Len64(s[k]) - 1
		}
	}
	return none
}

// onEveryWay answers for each block of an order, at its place, those that lie on every way to it; it is one of them.
func onEveryWay(g api.Graph, order []int) []set {
	place := placesIn(order, len(g.Blocks))
	on := startingSets(len(order))
	// common leaves of a block's set what it has in common with that of one that leads to it, and the block itself; and says whether that is less than there was.
	common := func(from, to int) (less bool) {
		for k, w := range on[to] {
			left := w & on[from][k]
			if k == to/64 {
				left |= 1 << (to % 64)
			}
			less = less || left != w
			on[to][k] = left
		}
		return less
	}
	// Those whose sets have changed since they were gone over: at first there is one set alone that all others do not have.
	open := make([]bool, len(order))
	open[0] = true
again:
	changed := false
	for at, n := range order {
		if !open[at] {
			continue
		}
		open[at] = false
		for _, to := range next(g.Blocks[n]) {
			if common(at, place[to]) {
				open[place[to]] = true
				changed = true
			}
		}
	}
	if changed {
		goto again
	}
	return on
}

// placesIn answers for each block its place in an order.
func placesIn(order []int, blocks int) []int {
	place := make([]int, blocks)
	for at, n := range order {
		place[n] = at
	}
	return place
}

// startingSets are so many: of the first block it alone, of each other one all that there may be, as no way to it has been gone along.
func startingSets(many int) []set {
	l := make([]set, many)
	for at := range l {
		l[at] = make(set, (many+63)/64)
		for k := range l[at] {
			if at > 0 {
				l[at][k] = ^uint64(0)
			}
		}
	}
	l[0].put(0)
	return l
}
