package flow_test

import (
	"testing"

	"turnstile/api"
)

// blocksOf is a graph of so many blocks, each with the end that a function answers.
func blocksOf(many int, end func(n int) api.Block) api.Graph {
	g := graph()
	for n := range many {
		g.Blocks = append(g.Blocks, end(n))
	}
	return g
}

func jump(yes int) api.Block { return api.Block{Last: api.LaJump, Yes: yes} }

func branch(yes, no int) api.Block { return api.Block{Last: api.LaBranch, Yes: yes, No: no} }

// mostBlocks are graphs of as many blocks as there may be, and what Dom says of block n.
func mostBlocks() map[string]struct {
	g   api.Graph
	dom func(n int) int
} {
	const many = api.MaxBlocks
	lastHalts := func(of func(n int) api.Block) api.Graph {
		return blocksOf(many, func(n int) api.Block {
			if n == many-1 {
				return halt()
			}
			return of(n)
		})
	}
	row := func(n int) int { return n - 1 }
	return map[string]struct {
		g   api.Graph
		dom func(n int) int
	}{
		"a row":                     {lastHalts(func(n int) api.Block { return jump(n + 1) }), row},
		"a row of loops":            {lastHalts(func(n int) api.Block { return branch(n, n+1) }), row},
		"a row and back to block 0": {lastHalts(func(n int) api.Block { return branch(0, n+1) }), row},
		"loops within loops":        {lastHalts(func(n int) api.Block { return branch(n+1, max(0, many/2-n)) }), nil},
		"a ring":                    {blocksOf(many, func(n int) api.Block { return jump((n + 1) % many) }), row},
		"ways that part and meet": {lastHalts(func(n int) api.Block {
			if n%3 == 0 {
				return branch(n+1, n+2)
			}
			return jump(n/3*3 + 3)
		}), func(n int) int { return (n - 1) / 3 * 3 }},
		"a tree": {blocksOf(many, func(n int) api.Block {
			to := func(n int) int {
				if n < many {
					return n
				}
				return 0
			}
			return branch(to(2*n+1), to(2*n+2))
		}), func(n int) int { return (n - 1) / 2 }},
		"a tree whose leaves lead anywhere": {blocksOf(many, func(n int) api.Block { return branch((2*n+1)%many, (2*n+2)%many) }), nil},
		"one that is left anywhere":         {lastHalts(func(n int) api.Block { return branch(n+1, many-1) }), func(n int) int { return (n - 1) % (many - 2) }},
		"from the last one on": {blocksOf(many, func(n int) api.Block {
			switch n {
			case 0:
				return jump(many - 1)
			case 1:
				return halt()
			}
			return jump(n - 1)
		}), func(n int) int { return (n + 1) % many }},
		// Each way in is seen one loop later than the one behind it.
		"backward by two": {blocksOf(many, func(n int) api.Block {
			switch {
			case n == 0:
				return branch(1, many-1)
			case n == 1:
				return jump(2)
			case n == many-1:
				return jump(n - 2)
			}
			return branch(n+1, n-2)
		}), nil},
		"backward by one":   {blocksOf(many, func(n int) api.Block { return branch(min(n+1, many-1), max(n-1, 0)) }), row},
		"a ladder":          {blocksOf(many, func(n int) api.Block { return branch((n+2)%many, (n+1)%many) }), nil},
		"a ladder and back": {blocksOf(many, func(n int) api.Block { return branch(min(n+2, many-1), max(n-1, 0)) }), nil},
		"halves that meet everywhere": {blocksOf(many, func(n int) api.Block {
			switch {
			case n == 0:
				return branch(1, many-1)
			case n < many/2:
				return branch(n+1, many-1-n)
			}
			return branch(n-1, many-1-n)
		}), nil},
		"not reached": {blocksOf(many, func(n int) api.Block {
			if n == 0 {
				return halt()
			}
			return jump(n - 1)
		}), func(int) int { return -1 }},
		"all to block 0": {lastHalts(func(n int) api.Block { return branch(n+1, 0) }), row},
		"all to one": {blocksOf(many, func(n int) api.Block {
			if n == many-1 {
				return jump(0)
			}
			return branch(many-1, n+1)
		}), func(n int) int {
			if n == many-1 {
				return 0
			}
			return n - 1
		}},
	}
}

// TestMostBlocks holds that the four calls answer of as many blocks as there may be, and in time; and what Dom answers, where it can be told in a word. (P12.1 to P12.5)
func TestMostBlocks(t *testing.T) {
	for what, row := range mostBlocks() {
		a := asked(t, row.g)
		if len(a.reach) != api.MaxBlocks || len(a.ahead) != api.MaxBlocks || len(a.dom) != api.MaxBlocks || len(a.inside) != api.MaxBlocks {
			t.Fatalf("%s: %d, %d, %d and %d elements", what, len(a.reach), len(a.ahead), len(a.dom), len(a.inside))
		}
		for n, dom := range a.dom {
			if reached := what != "not reached" || n == 0; a.reach[n] != reached {
				t.Errorf("%s: %d is reached: %v", what, n, a.reach[n])
			}
			if a.reach[n] && n > 0 && len(a.ahead[n]) == 0 {
				t.Errorf("%s: nothing is ahead of %d", what, n)
			}
			if n > 0 && row.dom != nil && dom != row.dom(n) || n == 0 && dom != -1 {
				t.Fatalf("%s: the Dom of %d is %d", what, n, dom)
			}
		}
		// Some blocks taken out, and what is still reached.
		for _, out := range []int{1, 2, 3, 1000, 2047, 2048, 2049, 4000, 4093, 4094, 4095} {
			still := quickly(row.g, out)
			behind := allBehind(a.dom, out)
			for n := range still {
				if a.reach[n] && still[n] == behind[n] {
					t.Fatalf("%s: %d lies on every way to %d: %v", what, out, n, !still[n])
				}
			}
		}
	}
}

// quickly says what is still reached when a block is taken out, as without does.
func quickly(g api.Graph, out int) []bool {
	still := make([]bool, len(g.Blocks))
	for open := []int{0}; len(open) > 0; {
		n := open[len(open)-1]
		open = open[:len(open)-1]
		if n == out || still[n] {
			continue
		}
		still[n] = true
		switch b := g.Blocks[n]; b.Last {
		case api.LaBranch:
			open = append(open, b.Yes, b.No)
		case api.LaJump:
			open = append(open, b.Yes)
		}
	}
	return still
}

// allBehind says of each block whether another one is met going from it from Dom to Dom; of that one it is true.
func allBehind(dom []int, on int) []bool {
	said := map[int]bool{-1: false, on: true}
	l := make([]bool, len(dom))
	for n := range dom {
		end := n
		for {
			if _, is := said[end]; is {
				break
			}
			end = dom[end]
		}
		l[n] = said[end]
		for k := n; k != end; k = dom[k] {
			said[k] = l[n]
		}
	}
	return l
}

// TestMostByChance holds the same of graphs of many blocks that lead anywhere. (P12.3)
func TestMostByChance(t *testing.T) {
	m := newMaker(126)
	for range 12 {
		reach := one(m, 3, 20, 200, api.MaxBlocks)
		g := blocksOf(api.MaxBlocks, func(n int) api.Block {
			to := func() int { return min(max(0, n+m.Intn(2*reach+1)-reach/2), api.MaxBlocks-1) }
			return branch(to(), to())
		})
		a := asked(t, g)
		for range 40 {
			out := 1 + m.Intn(api.MaxBlocks-1)
			still, behind := quickly(g, out), allBehind(a.dom, out)
			for n := range still {
				if a.reach[n] && still[n] == behind[n] {
					t.Fatalf("%d lies on every way to %d: %v", out, n, !still[n])
				}
			}
		}
	}
}
