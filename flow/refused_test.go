package flow_test

import (
	"fmt"
	"slices"
	"testing"

	"turnstile/api"
	"turnstile/flow"
	"turnstile/ir"
)

// testRefused holds ErrGraph in each of the four calls, and nothing beside it.
func testRefused(t *testing.T, what string, g api.Graph) {
	t.Helper()
	reach, e := flow.Reach(g)
	if reach != nil || e != api.ErrGraph {
		t.Errorf("%s: Reach: %v and the error %d", what, reach, e)
	}
	ahead, e := flow.Ahead(g)
	if ahead != nil || e != api.ErrGraph {
		t.Errorf("%s: Ahead: %v and the error %d", what, ahead, e)
	}
	dom, e := flow.Dom(g)
	if dom != nil || e != api.ErrGraph {
		t.Errorf("%s: Dom: %v and the error %d", what, dom, e)
	}
	inside, e := flow.Inside(g)
	if inside != nil || e != api.ErrGraph {
		t.Errorf("%s: Inside: %v and the error %d", what, inside, e)
	}
}

// found is ir's error of a graph as the one thread of a program with as many words as there may be.
func found(g api.Graph) api.Errno {
	_, _, e := ir.Check(api.Code{Words: api.MaxHeap, Threads: []api.Graph{g}})
	return e
}

func halt(l ...api.Ins) api.Block { return api.Block{Ins: l, Last: api.LaHalt} }

// wrongWhole are graphs that may not be as a whole, and which error ir has for each.
func wrongWhole() map[string]api.Graph {
	sites := func(n int) api.Graph { return api.Graph{Sites: n, Blocks: []api.Block{halt()}} }
	prints := func(n int) []api.Ins { return slices.Repeat([]api.Ins{{Kind: api.InPrint}}, n) }
	return map[string]api.Graph{
		"too many registers":    {Refs: make([]bool, api.MaxRegs+1), Blocks: []api.Block{halt()}},
		"too many blocks":       graph(slices.Repeat([]api.Block{halt()}, api.MaxBlocks+1)...),
		"too many instructions": graph(halt(prints(api.MaxIns + 1)...)),
		"too many in all":       graph(halt(prints(api.MaxIns)...), halt(prints(1)...)),
		"too many sites":        sites(api.MaxIns + 1),
		"sites below 0":         sites(-1),
		"no block":              graph(),
		"nothing":               {},
		"registers alone":       {Refs: []bool{true}, Sites: 3},
	}
}

// wrongIns are instructions that may not be by themselves.
func wrongIns() map[string]api.Ins {
	return map[string]api.Ins{
		"none":                      {},
		"of no kind":                {Kind: api.InEnd + 1},
		"of the last kind":          {Kind: 255},
		"a register below 0":        {Kind: api.InConst, A: -1},
		"a register too many":       {Kind: api.InConst, A: 6},
		"a reference of 5":          {Kind: api.InConst, A: 3, N: 5},
		"a constant with a B":       {Kind: api.InConst, B: 1},
		"a move to another sort":    {Kind: api.InMove, A: 3, B: 1},
		"a move with an N":          {Kind: api.InMove, A: 1, B: 1, N: 1},
		"no operation":              {Kind: api.InCalc},
		"an operation too many":     {Kind: api.InCalc, Calc: api.CalcLe + 1},
		"references added":          {Kind: api.InCalc, Calc: api.CalcAdd, B: 3, C: 4},
		"a reference and a number":  {Kind: api.InCalc, Calc: api.CalcEq, B: 3, C: 1},
		"a calc of a reference":     {Kind: api.InCalc, Calc: api.CalcEq, A: 3, B: 3, C: 3},
		"nil of a number":           {Kind: api.InNil, B: 1},
		"an index of a reference":   {Kind: api.InIndex, B: 3, N: 1},
		"an index of nothing":       {Kind: api.InIndex},
		"an index of too much":      {Kind: api.InIndex, N: api.MaxArray + 1},
		"the word 0":                {Kind: api.InShared, A: 3},
		"a word below 0":            {Kind: api.InShared, A: 3, N: -1},
		"a word too many":           {Kind: api.InShared, A: 3, N: api.MaxHeap + 1},
		"a shared number":           {Kind: api.InShared, A: 1, N: 1},
		"new of nothing":            {Kind: api.InNew, A: 3},
		"new of too much":           {Kind: api.InNew, A: 3, N: api.MaxArray + 1},
		"new of no site":            {Kind: api.InNew, A: 3, N: 1, C: 1},
		"new of a number":           {Kind: api.InNew, A: 1, N: 1},
		"a load by a number":        {Kind: api.InLoad, B: 1, C: -1},
		"a store with a C of -2":    {Kind: api.InStore, B: 3, C: -2},
		"an own load by references": {Kind: api.InOwnLoad, B: 3, C: 4},
		"an own store with -1":      {Kind: api.InOwnStore, B: 3, C: -1, N: -1},
		"a load of too much":        {Kind: api.InLoad, B: 3, C: -1, N: api.MaxArray + 1},
		"a load with an operation":  {Kind: api.InLoad, Calc: api.CalcAdd, B: 3, C: -1},
		"a reference told":          {Kind: api.InPrint, B: 3},
		"a begin with an A":         {Kind: api.InBegin, A: 1},
		"an end with an N":          {Kind: api.InEnd, N: 1},
	}
}

// wrongEnds are ends that may not be, of a graph of two blocks.
func wrongEnds() map[string]api.Block {
	return map[string]api.Block{
		"none":                    {},
		"of no kind":              {Last: api.LaHalt + 1},
		"of the last kind":        {Last: 255},
		"a jump to no block":      {Last: api.LaJump, Yes: 2},
		"a jump ahead of all":     {Last: api.LaJump, Yes: -1},
		"a jump with a No":        {Last: api.LaJump, No: 1},
		"a jump with a register":  {Last: api.LaJump, Reg: 1},
		"a halt with a Yes":       {Last: api.LaHalt, Yes: 1},
		"a branch by a reference": {Last: api.LaBranch, Reg: 3},
		"a branch by no register": {Last: api.LaBranch, Reg: 6},
		"a branch by -1":          {Last: api.LaBranch, Reg: -1},
		"a branch to no block":    {Last: api.LaBranch, Yes: 2},
		"a branch, else to none":  {Last: api.LaBranch, No: 2},
		"a branch, else ahead":    {Last: api.LaBranch, No: -1},
	}
}

// wrongSides are graphs in which something stands on the wrong side, or a block may begin on both.
func wrongSides() []string {
	return []string{"b.", "e.", "bb>1 e.", "bee.", "l.", "n.", "S.", "be>1 l.", "b>1 .", ">1 e.", "b>0", "b>1 >0", "?1,2 b>2 .", "?0,1 b>0", "b?1,2 >3 e>3 p>3", ">1 ?2,3 >4 b>4 e."}
}

// TestRefused holds ErrGraph of all that ir refuses, by whatever error. (P12.1 to P12.4)
func TestRefused(t *testing.T) {
	both := map[api.Errno]int{}
	refused := func(what string, g api.Graph) {
		t.Helper()
		both[found(g)]++
		testRefused(t, what, g)
	}
	for what, g := range wrongWhole() {
		refused(what, g)
	}
	for what, i := range wrongIns() {
		between := api.Graph{Refs: graph().Refs, Sites: 1, Blocks: []api.Block{{Ins: []api.Ins{{Kind: api.InBegin}, i, {Kind: api.InEnd}}, Last: api.LaHalt}}}
		if i.Kind == api.InBegin {
			between.Blocks[0].Ins = between.Blocks[0].Ins[1:]
		}
		refused(what, between)
		// In a block that is not reached.
		between.Blocks = append([]api.Block{halt()}, between.Blocks...)
		refused(what, between)
	}
	for what, b := range wrongEnds() {
		refused(what, graph(b, halt()))
		refused(what, graph(halt(), b))
	}
	for _, text := range wrongSides() {
		refused(text, read(t, text))
	}
	site := api.Ins{Kind: api.InNew, A: 3, N: 1}
	refused("two of one site", api.Graph{Refs: graph().Refs, Sites: 1, Blocks: []api.Block{halt(api.Ins{Kind: api.InBegin}, site, site, api.Ins{Kind: api.InEnd})}})
	if both[api.OK] > 0 || both[api.ErrLimit] < 5 || both[api.ErrGraph] < 50 {
		t.Errorf("ir's errors: %v", both)
	}
}

// TestTaken holds that what may be is taken, to the last word that there may be and to each limit.
func TestTaken(t *testing.T) {
	for _, n := range []int64{1, 2, 1000, api.MaxHeap - 1, api.MaxHeap} {
		testTexts(t, graph(halt(api.Ins{Kind: api.InShared, A: 3, N: n})), [4]string{"1", "-", "-1", "0"})
	}
	for what, g := range map[string]api.Graph{
		"most registers":    {Refs: make([]bool, api.MaxRegs), Blocks: []api.Block{halt()}},
		"most sites":        {Sites: api.MaxIns, Blocks: []api.Block{halt()}},
		"most instructions": graph(halt(slices.Repeat([]api.Ins{{Kind: api.InPrint}}, api.MaxIns)...)),
		"no register":       {Blocks: []api.Block{halt()}},
	} {
		if got := asked(t, g).texts(); got != [4]string{"1", "-", "-1", "0"} {
			t.Errorf("%s: %v", what, got)
		}
	}
	// What is not reached may stand on any side, but not be wrong by itself.
	testTexts(t, read(t, ". l. bb>2 e>1"), [4]string{"1000", "- - - -", "-1 -1 -1 -1", "0000"})
}

// edit changes something in a graph.
func (m maker) edit(g *api.Graph) {
	some := func() int { return one(m, -1, 0, 0, 1, 2, 3, 4, 5, 6, 7) }
	b := &g.Blocks[m.Intn(len(g.Blocks))]
	switch m.Intn(9) {
	case 0:
		b.Last = api.LastKind(m.Intn(5))
	case 1:
		b.Yes = some()
	case 2:
		b.No = some()
	case 3:
		b.Reg = some()
	case 4:
		b.Ins = append(b.Ins, api.Ins{Kind: api.InsKind(m.Intn(16)), A: some(), B: some(), C: some() - 1, N: int64(some())})
	case 5:
		b.Ins = b.Ins[:m.Intn(len(b.Ins)+1)]
	case 6:
		b.Ins = append(b.Ins, api.Ins{Kind: api.InEnd})
	case 7:
		b.Ins = append([]api.Ins{{Kind: api.InBegin}}, b.Ins...)
	case 8:
		g.Refs = g.Refs[:m.Intn(len(g.Refs)+1)]
	}
}

// TestEditsByChance holds that just those are taken which ir takes, and what is answered then. (P12.1 to P12.4)
func TestEditsByChance(t *testing.T) {
	c := tally{}
	each(121, 4000, func(m maker, g api.Graph) {
		for range 1 + m.Intn(2) {
			m.edit(&g)
		}
		if found(g) != api.OK {
			c["refused"]++
			testRefused(t, fmt.Sprintf("%+v", g), g)
			return
		}
		c["taken"]++
		testTexts(t, g, byWords(g).texts())
	})
	c.wants(t, 500, "refused", "taken")
}
