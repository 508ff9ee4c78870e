package live_test

import (
	"fmt"
	"math"
	"slices"
	"testing"

	"turnstile/api"
	"turnstile/ir"
	"turnstile/live"
)

// testRefused holds ErrGraph in each of the three calls, and nothing beside it, of spots of all sorts.
func testRefused(t *testing.T, what string, g api.Graph) {
	t.Helper()
	if l, e := live.In(g); l != nil || e != api.ErrGraph {
		t.Errorf("%s: In: %v and the error %d", what, l, e)
	}
	for _, s := range append(noSpots(g), spot(0, 0), spot(0, 1), spot(1, 0), spot(1, 1)) {
		if l, e := live.At(g, s); l != nil || e != api.ErrGraph {
			t.Errorf("%s: At %v: %v and the error %d", what, s, l, e)
		}
		if l, e := live.Saved(g, s); l != nil || e != api.ErrGraph {
			t.Errorf("%s: Saved %v: %v and the error %d", what, s, l, e)
		}
	}
}

// testNoSpot holds ErrArg, and nothing beside it, of a spot that is none.
func testNoSpot(t *testing.T, g api.Graph, s api.Spot) {
	t.Helper()
	if l, e := live.At(g, s); l != nil || e != api.ErrArg {
		t.Errorf("%s: At %v: %v and the error %d", textOf(g), s, l, e)
	}
	testNoBegin(t, g, s)
}

// testNoBegin holds ErrArg, and nothing beside it, of a spot at which no InBegin stands.
func testNoBegin(t *testing.T, g api.Graph, s api.Spot) {
	t.Helper()
	if l, e := live.Saved(g, s); l != nil || e != api.ErrArg {
		t.Errorf("%s: Saved %v: %v and the error %d", textOf(g), s, l, e)
	}
}

// noSpots are some that a graph does not have.
func noSpots(g api.Graph) []api.Spot {
	n := len(g.Blocks)
	l := []api.Spot{
		spot(-1, 0), spot(n, 0), spot(n+1, 0), spot(-1, -1), spot(n, -1), spot(math.MaxInt, 0), spot(math.MinInt, 0),
		spot(math.MaxInt, math.MaxInt), spot(math.MinInt, math.MinInt), spot(0, -1), spot(0, math.MaxInt), spot(0, math.MinInt),
	}
	for k, b := range g.Blocks[:min(n, 30)] {
		l = append(l, spot(k, len(b.Ins)+1), spot(k, len(b.Ins)+2), spot(k, -1))
	}
	return l
}

// TestNoSpots holds ErrArg of spots that are none, and of Saved where another instruction stands, or a block's end. (P13.2, P13.3)
func TestNoSpots(t *testing.T) {
	for _, g := range []api.Graph{
		read(t, "halt"),
		read(t, "begin; end; halt"),
		read(t, "begin; jump 1", "end; jump 2", "begin; branch r0 1 1"),
		read(t, "halt", "begin; begin; jump 0"),
	} {
		for _, s := range noSpots(g) {
			testNoSpot(t, g, s)
		}
		for _, s := range spots(g) {
			at(t, g, s)
			if isBegin(g, s) {
				saved(t, g, s)
			} else {
				testNoBegin(t, g, s)
			}
		}
	}
	for _, row := range deeds() {
		if row[0] != "begin" {
			testNoBegin(t, read(t, "halt", row[0]+"; halt"), spot(1, 0))
		}
	}
}

// graph has the numbers' registers 0, 1, 2, and 3, 4, 5 of references.
func graph(blocks ...api.Block) api.Graph {
	return api.Graph{Refs: []bool{false, false, false, true, true, true}, Blocks: blocks}
}

// found is ir's error of a graph as the one thread of a program with as many words as there may be.
func found(g api.Graph) api.Errno {
	_, _, e := ir.Check(api.Code{Words: api.MaxHeap, Threads: []api.Graph{g}})
	return e
}

func halt(l ...api.Ins) api.Block { return api.Block{Ins: l, Last: api.LaHalt} }

// wrongWhole are graphs that may not be as a whole.
func wrongWhole() map[string]api.Graph {
	sites := func(n int) api.Graph { return api.Graph{Sites: n, Blocks: []api.Block{halt()}} }
	prints := func(n int) []api.Ins { return slices.Repeat([]api.Ins{{Kind: api.InPrint}}, n) }
	return map[string]api.Graph{
		"too many registers":    {Refs: make([]bool, api.MaxRegs+1), Blocks: []api.Block{halt()}},
		"many too many":         {Refs: make([]bool, 1<<20), Blocks: []api.Block{halt(api.Ins{Kind: api.InPrint, B: 1<<20 - 1})}},
		"too many blocks":       graph(slices.Repeat([]api.Block{halt()}, api.MaxBlocks+1)...),
		"too many instructions": graph(halt(prints(api.MaxIns + 1)...)),
		"too many in all":       graph(halt(prints(api.MaxIns)...), halt(prints(1)...)),
		"too many sites":        sites(api.MaxIns + 1),
		"most of all sites":     sites(math.MaxInt),
		"sites below 0":         sites(-1),
		"sites far below 0":     sites(math.MinInt),
		"no block":              graph(),
		"nothing":               {},
		"registers alone":       {Refs: []bool{true}, Sites: 3},
	}
}

// wrongIns are instructions that may not be by themselves.
func wrongIns() map[string]api.Ins {
	return map[string]api.Ins{
		"none":                       {},
		"of no kind":                 {Kind: api.InEnd + 1},
		"of the last kind":           {Kind: 255},
		"a register below 0":         {Kind: api.InConst, A: -1},
		"a register far below 0":     {Kind: api.InConst, A: math.MinInt},
		"a register too many":        {Kind: api.InConst, A: 6},
		"the highest register":       {Kind: api.InPrint, B: api.MaxRegs - 1},
		"a register far above":       {Kind: api.InPrint, B: math.MaxInt},
		"a reference of 5":           {Kind: api.InConst, A: 3, N: 5},
		"a constant with a B":        {Kind: api.InConst, B: 1},
		"a move to another sort":     {Kind: api.InMove, A: 3, B: 1},
		"a move with an N":           {Kind: api.InMove, A: 1, B: 1, N: 1},
		"no operation":               {Kind: api.InCalc},
		"an operation too many":      {Kind: api.InCalc, Calc: api.CalcLe + 1},
		"references added":           {Kind: api.InCalc, Calc: api.CalcAdd, B: 3, C: 4},
		"a reference and a number":   {Kind: api.InCalc, Calc: api.CalcEq, B: 3, C: 1},
		"a calc of a reference":      {Kind: api.InCalc, Calc: api.CalcEq, A: 3, B: 3, C: 3},
		"a calc without a C":         {Kind: api.InCalc, Calc: api.CalcAdd, C: -1},
		"nil of a number":            {Kind: api.InNil, B: 1},
		"an index of a reference":    {Kind: api.InIndex, B: 3, N: 1},
		"an index of nothing":        {Kind: api.InIndex},
		"an index of too much":       {Kind: api.InIndex, N: api.MaxArray + 1},
		"the word 0":                 {Kind: api.InShared, A: 3},
		"a word below 0":             {Kind: api.InShared, A: 3, N: -1},
		"a word too many":            {Kind: api.InShared, A: 3, N: api.MaxHeap + 1},
		"a shared number":            {Kind: api.InShared, A: 1, N: 1},
		"new of nothing":             {Kind: api.InNew, A: 3},
		"new of too much":            {Kind: api.InNew, A: 3, N: api.MaxArray + 1},
		"new of no site":             {Kind: api.InNew, A: 3, N: 1, C: 1},
		"new of a number":            {Kind: api.InNew, A: 1, N: 1},
		"a load by a number":         {Kind: api.InLoad, B: 1, C: -1},
		"a store with a C of -2":     {Kind: api.InStore, B: 3, C: -2},
		"a store of no register":     {Kind: api.InStore, A: -1, B: 3, C: -1},
		"an own load by references":  {Kind: api.InOwnLoad, B: 3, C: 4},
		"an own store with -1":       {Kind: api.InOwnStore, B: 3, C: -1, N: -1},
		"a load of too much":         {Kind: api.InLoad, B: 3, C: -1, N: api.MaxArray + 1},
		"a load with an operation":   {Kind: api.InLoad, Calc: api.CalcAdd, B: 3, C: -1},
		"a load by a register above": {Kind: api.InLoad, B: 3, C: 6},
		"a reference told":           {Kind: api.InPrint, B: 3},
		"a begin with an A":          {Kind: api.InBegin, A: 1},
		"an end with an N":           {Kind: api.InEnd, N: 1},
	}
}

// wrongEnds are ends that may not be, of a graph of two blocks.
func wrongEnds() map[string]api.Block {
	return map[string]api.Block{
		"none":                    {},
		"of no kind":              {Last: api.LaHalt + 1},
		"of the last kind":        {Last: 255},
		"a jump to no block":      {Last: api.LaJump, Yes: 2},
		"a jump ahead of all":     {Last: api.LaJump, Yes: -1},
		"a jump with a No":        {Last: api.LaJump, No: 1},
		"a jump with a register":  {Last: api.LaJump, Reg: 1},
		"a halt with a Yes":       {Last: api.LaHalt, Yes: 1},
		"a halt with a register":  {Last: api.LaHalt, Reg: 1},
		"a branch by a reference": {Last: api.LaBranch, Reg: 3},
		"a branch by no register": {Last: api.LaBranch, Reg: 6},
		"a branch by -1":          {Last: api.LaBranch, Reg: -1},
		"a branch far above":      {Last: api.LaBranch, Reg: math.MaxInt},
		"a branch to no block":    {Last: api.LaBranch, Yes: 2},
		"a branch, else to none":  {Last: api.LaBranch, No: 2},
		"a branch, else ahead":    {Last: api.LaBranch, No: -1},
		"a branch, else far off":  {Last: api.LaBranch, No: math.MaxInt},
	}
}

// wrongSides are graphs in which something stands on the wrong side, or a block may begin on both.
func wrongSides() [][]api.Block {
	begin, end, tell := api.Ins{Kind: api.InBegin}, api.Ins{Kind: api.InEnd}, api.Ins{Kind: api.InPrint}
	load, own := api.Ins{Kind: api.InLoad, B: 3, C: -1}, api.Ins{Kind: api.InOwnLoad, B: 3, C: -1}
	store, ownStore := api.Ins{Kind: api.InStore, B: 3, C: -1}, api.Ins{Kind: api.InOwnStore, B: 3, C: -1}
	jump := func(to int, l ...api.Ins) api.Block { return api.Block{Ins: l, Last: api.LaJump, Yes: to} }
	branch := func(yes, no int, l ...api.Ins) api.Block {
		return api.Block{Ins: l, Last: api.LaBranch, Yes: yes, No: no}
	}
	return [][]api.Block{
		{halt(begin)}, {halt(end)}, {halt(load)}, {halt(own)}, {halt(store)}, {halt(ownStore)},
		{halt(begin, begin, end)}, {halt(begin, end, end)}, {halt(begin, end, load)},
		{jump(1, begin), halt()}, {jump(1), halt(end)}, {jump(1, begin, end), halt(store)}, {jump(1, begin), halt(begin, end)},
		{jump(0, begin)}, {jump(1, begin), jump(0)}, {branch(1, 2), jump(2, begin), halt()}, {branch(0, 1, tell), jump(0, begin)},
		{branch(1, 2, begin), jump(3), jump(3, end), jump(3, tell)}, {jump(1), branch(2, 3), jump(4), jump(4, begin), halt(end)},
	}
}

// TestRefused holds ErrGraph of all that ir refuses, by whatever error, ahead of ErrArg. (P13.1 to P13.3)
func TestRefused(t *testing.T) {
	both := map[api.Errno]int{}
	refused := func(what string, g api.Graph) {
		t.Helper()
		both[found(g)]++
		testRefused(t, what, g)
	}
	for what, g := range wrongWhole() {
		refused(what, g)
	}
	for what, i := range wrongIns() {
		between := api.Graph{Refs: graph().Refs, Sites: 1, Blocks: []api.Block{halt(api.Ins{Kind: api.InBegin}, i, api.Ins{Kind: api.InEnd})}}
		if i.Kind == api.InBegin {
			between.Blocks[0].Ins = between.Blocks[0].Ins[1:]
		}
		refused(what, between)
		// In a block that is not reached.
		between.Blocks = append([]api.Block{halt()}, between.Blocks...)
		refused(what, between)
	}
	for what, b := range wrongEnds() {
		refused(what, graph(b, halt()))
		refused(what, graph(halt(), b))
	}
	for n, l := range wrongSides() {
		refused(fmt.Sprintf("the sides of %d", n), graph(l...))
	}
	site := api.Ins{Kind: api.InNew, A: 3, N: 1}
	refused("a thing made outside", api.Graph{Refs: graph().Refs, Sites: 1, Blocks: []api.Block{halt(site)}})
	refused("two of one site", api.Graph{Refs: graph().Refs, Sites: 1, Blocks: []api.Block{halt(api.Ins{Kind: api.InBegin}, site, site, api.Ins{Kind: api.InEnd})}})
	if both[api.OK] > 0 || both[api.ErrLimit] < 5 || both[api.ErrGraph] < 50 {
		t.Errorf("ir's errors: %v", both)
	}
}

// TestTaken holds that what may be is taken, to the last word that there may be and to each limit. (P13.1 to P13.3)
func TestTaken(t *testing.T) {
	for _, n := range []int64{1, 2, 1000, api.MaxHeap - 1, api.MaxHeap} {
		testIn(t, graph(halt(api.Ins{Kind: api.InShared, A: 3, N: n})), "-")
	}
	testIn(t, api.Graph{Refs: make([]bool, api.MaxRegs), Blocks: []api.Block{halt()}}, "-")
	testIn(t, api.Graph{Sites: api.MaxIns, Blocks: []api.Block{halt()}}, "-")
	testIn(t, api.Graph{Blocks: []api.Block{halt()}}, "-")
	testIn(t, graph(halt(slices.Repeat([]api.Ins{{Kind: api.InPrint, B: 1}}, api.MaxIns)...)), "1")
}

// edit changes something in a graph.
func (m maker) edit(g *api.Graph) {
	some := func() int { return one(m, -1, 0, 0, 1, 2, 3, 4, 5, 6, 7) }
	b := &g.Blocks[m.Intn(len(g.Blocks))]
	switch m.Intn(9) {
	case 0:
		b.Last = api.LastKind(m.Intn(5))
	case 1:
		b.Yes = some()
	case 2:
		b.No = some()
	case 3:
		b.Reg = some()
	case 4:
		b.Ins = append(b.Ins, api.Ins{Kind: api.InsKind(m.Intn(16)), A: some(), B: some(), C: some() - 1, N: int64(some())})
	case 5:
		b.Ins = b.Ins[:m.Intn(len(b.Ins)+1)]
	case 6:
		b.Ins = append(b.Ins, api.Ins{Kind: api.InEnd})
	case 7:
		b.Ins = append([]api.Ins{{Kind: api.InBegin}}, b.Ins...)
	case 8:
		g.Refs = g.Refs[:m.Intn(len(g.Refs)+1)]
	}
}

// TestEditsByChance holds that just those are taken which ir takes, and what is answered then. (P13.1 to P13.3)
func TestEditsByChance(t *testing.T) {
	c := tally{}
	each(131, 3000, func(m maker, g api.Graph) {
		for range 1 + m.Intn(2) {
			m.edit(&g)
		}
		if found(g) != api.OK {
			c["refused"]++
			testRefused(t, fmt.Sprintf("%+v", g), g)
			return
		}
		c["taken"]++
		testByWords(t, g)
	})
	c.wants(t, 500, "refused", "taken")
}
