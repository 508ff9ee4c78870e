package flow_test

import (
	"slices"

	"turnstile/api"
)

// The chapter's words, written out once more: as plainly as they stand there.

// leads says whether a block's end names another one.
func leads(b api.Block, to int) bool {
	return b.Last == api.LaJump && b.Yes == to || b.Last == api.LaBranch && (b.Yes == to || b.No == to)
}

// without says to which blocks there is a way that does not go through one; -1: through any.
func without(g api.Graph, out int) []bool {
	met := make([]bool, len(g.Blocks))
	if out == 0 {
		return met
	}
	met[0] = true
	for open := []int{0}; len(open) > 0; {
		from := g.Blocks[open[0]]
		open = open[1:]
		for to := range g.Blocks {
			if to != out && !met[to] && leads(from, to) {
				met[to] = true
				open = append(open, to)
			}
		}
	}
	return met
}

// everyWay says of each two blocks whether the first lies on every way to the second, which is reached.
func everyWay(g api.Graph) [][]bool {
	reached := without(g, -1)
	l := make([][]bool, len(g.Blocks))
	for n := range l {
		l[n] = without(g, n)
		for to := range l[n] {
			l[n][to] = reached[to] && !l[n][to]
		}
	}
	return l
}

// sides says on which sides a block may begin.
func sides(g api.Graph) (outside, inside []bool) {
	begins := [2][]bool{make([]bool, len(g.Blocks)), make([]bool, len(g.Blocks))}
	begins[0][0] = true
	for changed := true; changed; {
		changed = false
		for n, b := range g.Blocks {
			for on := range begins {
				if !begins[on][n] {
					continue
				}
				behind := on
				for _, i := range b.Ins {
					if i.Kind == api.InBegin {
						behind = 1
					}
					if i.Kind == api.InEnd {
						behind = 0
					}
				}
				for to := range g.Blocks {
					if leads(b, to) && !begins[behind][to] {
						begins[behind][to] = true
						changed = true
					}
				}
			}
		}
	}
	return begins[0], begins[1]
}

// byWords are the four answers.
func byWords(g api.Graph) (a answer) {
	a.reach = without(g, -1)
	on := everyWay(g)
	for n := range g.Blocks {
		var ahead, others []int
		for other, b := range g.Blocks {
			if a.reach[other] && leads(b, n) {
				ahead = append(ahead, other)
			}
			if other != n && on[other][n] {
				others = append(others, other)
			}
		}
		a.ahead = append(a.ahead, ahead)
		a.dom = append(a.dom, last(others, on))
	}
	_, a.inside = sides(g)
	return a
}

// last is that one of some blocks which all the others of these lie on every way to; -1, if there is none.
func last(l []int, on [][]bool) int {
	for _, n := range l {
		if !slices.ContainsFunc(l, func(other int) bool { return other != n && !on[other][n] }) {
			return n
		}
	}
	return -1
}
