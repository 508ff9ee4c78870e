package lower

import "turnstile/api"

// graph is one that is being made. What comes next is added to the block at, whose end is still to come.
type graph struct {
	made api.Graph
	at   int
	// many is how many instructions there are in all.
	many int
}

// nowhere is the block at which it goes on where nothing leads on, as behind a return: none.
const nowhere = -1

// none is the C of a load or a store that has no such register.
const none = -1

// Two registers of each graph have what they have for the next instructions alone: spot the word of a shared variable, nought a 0.
const (
	spot = iota
	nought
)

// number is the one type that is no reference's.
var number = api.Type{Kind: api.TyInt}

// tooMuch leaves a program that has more in it than a graph may have.
type tooMuch struct{}

func must(fits bool) {
	if !fits {
		panic(tooMuch{})
	}
}

func newGraph() graph {
	return graph{made: api.Graph{Refs: []bool{spot: true, nought: false}, Blocks: make([]api.Block, 1)}}
}

// register answers a new one, for values of a type; nil's own, which has none, is a reference's.
func (g *graph) register(of api.Type) int {
	must(len(g.made.Refs) < api.MaxRegs)
	g.made.Refs = append(g.made.Refs, of != number)
	return len(g.made.Refs) - 1
}

func (g *graph) add(i api.Ins) {
	must(g.many < api.MaxIns)
	g.many++
	b := &g.made.Blocks[g.at]
	b.Ins = append(b.Ins, i)
}

// site answers a new one.
func (g *graph) site() int {
	g.made.Sites++
	return g.made.Sites - 1
}

// block answers a new one, to which nothing leads yet.
func (g *graph) block() int {
	must(len(g.made.Blocks) < api.MaxBlocks)
	g.made.Blocks = append(g.made.Blocks, api.Block{})
	return len(g.made.Blocks) - 1
}

// end ends the block. It goes on nowhere, till it is said where.
func (g *graph) end(last api.LastKind, reg, yes, no int) {
	b := &g.made.Blocks[g.at]
	b.Last, b.Reg, b.Yes, b.No = last, reg, yes, no
	g.at = nowhere
}

func (g *graph) jump(to int) { g.end(api.LaJump, 0, to, 0) }

// loopable goes on at the beginning of a block, to which a loop may lead back, and answers that.
func (g *graph) loopable() int {
	if !g.empty(g.at) {
		next := g.block()
		g.jump(next)
		g.at = next
	}
	return g.at
}

// join goes on behind all of these blocks, whose ends are still to come, or behind the one; nowhere, if there is none.
func (g *graph) join(open []int) {
	switch len(open) {
	case 0:
		g.at = nowhere
	case 1:
		g.at = open[0]
	default:
		next := g.meeting(open)
		for _, b := range open {
			if b != next {
				g.at = b
				g.jump(next)
			}
		}
		g.at = next
	}
}

// meeting is a block to which the others may lead: one of them, if there is nothing in it.
func (g *graph) meeting(open []int) int {
	for _, b := range open {
		if g.empty(b) {
			return b
		}
	}
	return g.block()
}

func (g *graph) empty(block int) bool { return len(g.made.Blocks[block].Ins) == 0 }

// here is the block at which it goes on, if it does.
func (g *graph) here() []int {
	if g.at == nowhere {
		return nil
	}
	return []int{g.at}
}
