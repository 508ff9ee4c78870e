package tidy_test

import (
	"fmt"
	"math"
	"reflect"
	"slices"
	"testing"

	"turnstile/api"
	"turnstile/ir"
	"turnstile/tidy"
)

// found is ir's error of a program.
func found(c api.Code) api.Errno {
	_, _, e := ir.Check(c)
	return e
}

// testRefused holds ErrGraph, and nothing beside it, of what ir refuses.
func testRefused(t *testing.T, what string, c api.Code) {
	t.Helper()
	if found(c) == api.OK {
		t.Fatalf("%s: ir takes it", what)
	}
	if less, e := tidy.Tidy(c); e != api.ErrGraph || !reflect.DeepEqual(less, api.Code{}) {
		t.Errorf("%s: %+v and the error %d", what, less, e)
	}
}

// graph has the numbers' registers 0, 1, 2, and 3, 4, 5 of references, and one site.
func graph(blocks ...api.Block) api.Graph {
	return api.Graph{Refs: []bool{false, false, false, true, true, true}, Sites: 1, Blocks: blocks}
}

func halt(l ...api.Ins) api.Block { return api.Block{Ins: l, Last: api.LaHalt} }

func jump(to int, l ...api.Ins) api.Block { return api.Block{Ins: l, Last: api.LaJump, Yes: to} }

func branch(yes, no int, l ...api.Ins) api.Block {
	return api.Block{Ins: l, Last: api.LaBranch, Yes: yes, No: no}
}

// wrongGraphs are threads that may not be as a whole.
func wrongGraphs() map[string]api.Graph {
	prints := func(n int) []api.Ins { return slices.Repeat([]api.Ins{{Kind: api.InPrint}}, n) }
	return map[string]api.Graph{
		"too many registers":    {Refs: make([]bool, api.MaxRegs+1), Blocks: []api.Block{halt()}},
		"many too many":         {Refs: make([]bool, 1<<20), Blocks: []api.Block{halt(api.Ins{Kind: api.InPrint, B: 1<<20 - 1})}},
		"too many blocks":       graph(slices.Repeat([]api.Block{halt()}, api.MaxBlocks+1)...),
		"too many instructions": graph(halt(prints(api.MaxIns + 1)...)),
		"too many in all":       graph(halt(prints(api.MaxIns)...), halt(prints(1)...)),
		"too many sites":        {Sites: api.MaxIns + 1, Blocks: []api.Block{halt()}},
		"most of all sites":     {Sites: math.MaxInt, Blocks: []api.Block{halt()}},
		"sites below 0":         {Sites: -1, Blocks: []api.Block{halt()}},
		"sites far below 0":     {Sites: math.MinInt, Blocks: []api.Block{halt()}},
		"no block":              graph(),
		"nothing":               {},
	}
}

// wrongIns are instructions that may not be by themselves.
func wrongIns() map[string]api.Ins {
	return map[string]api.Ins{
		"none":                       {},
		"of no kind":                 {Kind: api.InEnd + 1},
		"of the last kind":           {Kind: 255},
		"a register below 0":         {Kind: api.InConst, A: -1},
		"a register far below 0":     {Kind: api.InConst, A: math.MinInt},
		"a register too many":        {Kind: api.InConst, A: 6},
		"a register far above":       {Kind: api.InPrint, B: math.MaxInt},
		"a reference of 5":           {Kind: api.InConst, A: 3, N: 5},
		"a constant with a B":        {Kind: api.InConst, B: 1},
		"a move to another sort":     {Kind: api.InMove, A: 3, B: 1},
		"a move with an N":           {Kind: api.InMove, A: 1, B: 1, N: 1},
		"no operation":               {Kind: api.InCalc},
		"an operation too many":      {Kind: api.InCalc, Calc: api.CalcLe + 1},
		"references added":           {Kind: api.InCalc, Calc: api.CalcAdd, B: 3, C: 4},
		"a reference and a number":   {Kind: api.InCalc, Calc: api.CalcEq, B: 3, C: 1},
		"a calc of a reference":      {Kind: api.InCalc, Calc: api.CalcEq, A: 3, B: 3, C: 3},
		"a calc without a C":         {Kind: api.InCalc, Calc: api.CalcAdd, C: -1},
		"nil of a number":            {Kind: api.InNil, B: 1},
		"an index of a reference":    {Kind: api.InIndex, B: 3, N: 1},
		"an index of nothing":        {Kind: api.InIndex},
		"an index of too much":       {Kind: api.InIndex, N: api.MaxArray + 1},
		"the word 0":                 {Kind: api.InShared, A: 3},
		"a word below 0":             {Kind: api.InShared, A: 3, N: -1},
		"a word too many":            {Kind: api.InShared, A: 3, N: 8},
		"a shared number":            {Kind: api.InShared, A: 1, N: 1},
		"new of nothing":             {Kind: api.InNew, A: 3},
		"new of too much":            {Kind: api.InNew, A: 3, N: api.MaxArray + 1},
		"new of no site":             {Kind: api.InNew, A: 3, N: 1, C: 1},
		"new of a number":            {Kind: api.InNew, A: 1, N: 1},
		"a load by a number":         {Kind: api.InLoad, B: 1, C: -1},
		"a store with a C of -2":     {Kind: api.InStore, B: 3, C: -2},
		"a store of no register":     {Kind: api.InStore, A: -1, B: 3, C: -1},
		"an own load by references":  {Kind: api.InOwnLoad, B: 3, C: 4},
		"an own store with -1":       {Kind: api.InOwnStore, B: 3, C: -1, N: -1},
		"a load of too much":         {Kind: api.InLoad, B: 3, C: -1, N: api.MaxArray + 1},
		"a load with an operation":   {Kind: api.InLoad, Calc: api.CalcAdd, B: 3, C: -1},
		"a load by a register above": {Kind: api.InLoad, B: 3, C: 6},
		"a reference told":           {Kind: api.InPrint, B: 3},
		"a begin with an A":          {Kind: api.InBegin, A: 1},
		"an end with an N":           {Kind: api.InEnd, N: 1},
	}
}

// wrongEnds are ends that may not be, of a graph of two blocks.
func wrongEnds() map[string]api.Block {
	return map[string]api.Block{
		"none":                    {},
		"of no kind":              {Last: api.LaHalt + 1},
		"of the last kind":        {Last: 255},
		"a jump to no block":      {Last: api.LaJump, Yes: 2},
		"a jump ahead of all":     {Last: api.LaJump, Yes: -1},
		"a jump with a No":        {Last: api.LaJump, No: 1},
		"a jump with a register":  {Last: api.LaJump, Reg: 1},
		"a halt with a Yes":       {Last: api.LaHalt, Yes: 1},
		"a halt with a register":  {Last: api.LaHalt, Reg: 1},
		"a branch by a reference": {Last: api.LaBranch, Reg: 3},
		"a branch by no register": {Last: api.LaBranch, Reg: 6},
		"a branch by -1":          {Last: api.LaBranch, Reg: -1},
		"a branch far above":      {Last: api.LaBranch, Reg: math.MaxInt},
		"a branch to no block":    {Last: api.LaBranch, Yes: 2},
		"a branch, else to none":  {Last: api.LaBranch, No: 2},
		"a branch, else ahead":    {Last: api.LaBranch, No: -1},
		"a branch, else far off":  {Last: api.LaBranch, No: math.MaxInt},
	}
}

// wrongSides are graphs in which something stands on the wrong side, or a block may begin on both; also where tidying would take it away.
func wrongSides() [][]api.Block {
	begin, end, tell := api.Ins{Kind: api.InBegin}, api.Ins{Kind: api.InEnd}, api.Ins{Kind: api.InPrint}
	load, own := api.Ins{Kind: api.InLoad, B: 3, C: -1}, api.Ins{Kind: api.InOwnLoad, B: 3, C: -1}
	store, ownStore := api.Ins{Kind: api.InStore, B: 3, C: -1}, api.Ins{Kind: api.InOwnStore, B: 3, C: -1}
	site, one := api.Ins{Kind: api.InNew, A: 3, N: 1}, api.Ins{Kind: api.InConst, N: 1}
	return [][]api.Block{
		{halt(begin)}, {halt(end)}, {halt(load)}, {halt(own)}, {halt(store)}, {halt(ownStore)}, {halt(site)}, {halt(begin, site, site, end)},
		{halt(begin, begin, end)}, {halt(begin, end, end)}, {halt(begin, end, load)},
		{jump(1, begin), halt()}, {jump(1), halt(end)}, {jump(1, begin, end), halt(store)}, {jump(1, begin), halt(begin, end)},
		{jump(0, begin)}, {jump(1, begin), jump(0)}, {branch(1, 2), jump(2, begin), halt()}, {branch(0, 1, tell), jump(0, begin)},
		{branch(1, 2, begin), jump(3), jump(3, end), jump(3, tell)}, {jump(1), branch(2, 3), jump(4), jump(4, begin), halt(end)},
		{branch(1, 2, one), halt(), halt(end)}, {branch(1, 2, one), halt(), jump(1, begin)}, {branch(1, 2, one), halt(), halt(load)},
	}
}

// TestRefused holds ErrGraph of all that ir refuses, by whatever error, in whatever thread. (P14.1)
func TestRefused(t *testing.T) {
	fine := graph(halt())
	refused := func(what string, g api.Graph) {
		t.Helper()
		testRefused(t, what, api.Code{Words: 7, Threads: []api.Graph{g}})
		testRefused(t, what, api.Code{Words: 7, Threads: []api.Graph{fine, fine, fine, g}})
		testRefused(t, what, api.Code{Words: 7, Threads: []api.Graph{g, fine}})
	}
	for what, g := range wrongGraphs() {
		refused(what, g)
	}
	for what, i := range wrongIns() {
		between := []api.Ins{{Kind: api.InBegin}, i, {Kind: api.InEnd}}
		if i.Kind == api.InBegin {
			between = between[1:]
		}
		refused(what, graph(halt(between...)))
		// In a block that is not reached, or not come to.
		refused(what, graph(halt(), halt(between...)))
		refused(what, graph(branch(1, 2, api.Ins{Kind: api.InConst, N: 1}), halt(), halt(between...)))
	}
	for what, b := range wrongEnds() {
		refused(what, graph(b, halt()))
		refused(what, graph(halt(), b))
	}
	for n, l := range wrongSides() {
		refused(fmt.Sprintf("the sides of %d", n), graph(l...))
	}
	for _, words := range []int{-1, math.MinInt, api.MaxHeap + 1, math.MaxInt} {
		testRefused(t, fmt.Sprintf("%d words", words), api.Code{Words: words})
		testRefused(t, fmt.Sprintf("%d words", words), api.Code{Words: words, Threads: []api.Graph{fine}})
	}
	testRefused(t, "too many threads", api.Code{Threads: slices.Repeat([]api.Graph{fine}, api.MaxThreads+1)})
	testRefused(t, "words that are not shared", api.Code{Words: 3, Threads: []api.Graph{graph(halt(api.Ins{Kind: api.InShared, A: 3, N: 4}))}})
}

// TestTaken holds that what may be is taken, to each limit. (P14.1)
func TestTaken(t *testing.T) {
	fine := graph(halt())
	for _, c := range []api.Code{
		{Words: api.MaxHeap, Threads: slices.Repeat([]api.Graph{fine}, api.MaxThreads)},
		{Words: api.MaxHeap, Threads: []api.Graph{graph(halt(api.Ins{Kind: api.InShared, A: 3, N: api.MaxHeap}, api.Ins{Kind: api.InNil, B: 3}))}},
		{Threads: []api.Graph{{Refs: make([]bool, api.MaxRegs), Sites: api.MaxIns, Blocks: slices.Repeat([]api.Block{halt()}, api.MaxBlocks)}}},
		{Threads: []api.Graph{graph(halt(slices.Repeat([]api.Ins{{Kind: api.InPrint, B: 1}}, api.MaxIns)...))}},
	} {
		testNoMore(t, c, tidied(t, c))
	}
}

// edit changes something in a graph.
func (m maker) edit(g *api.Graph) {
	some := func() int { return one(m, -1, 0, 0, 1, 2, 3, 4, 5, 6, 7, 8) }
	b := &g.Blocks[m.Intn(len(g.Blocks))]
	switch m.Intn(9) {
	case 0:
		b.Last = api.LastKind(m.Intn(5))
	case 1:
		b.Yes = some()
	case 2:
		b.No = some()
	case 3:
		b.Reg = some()
	case 4:
		b.Ins = append(b.Ins, api.Ins{Kind: api.InsKind(m.Intn(16)), A: some(), B: some(), C: some() - 1, N: int64(some())})
	case 5:
		b.Ins = b.Ins[:m.Intn(len(b.Ins)+1)]
	case 6:
		b.Ins = append(b.Ins, api.Ins{Kind: api.InEnd})
	case 7:
		b.Ins = append([]api.Ins{{Kind: api.InBegin}}, b.Ins...)
	case 8:
		g.Refs = g.Refs[:m.Intn(len(g.Refs)+1)]
	}
}

// TestEditsByChance holds that just those are taken which ir takes, and all promises of them. (P14.1 to P14.4)
func TestEditsByChance(t *testing.T) {
	c := tally{}
	each(t, 150, 2500, func(m maker, code api.Code) {
		code = copied(code)
		for range 1 + m.Intn(2) {
			m.edit(&code.Threads[1])
		}
		if found(code) != api.OK {
			c["refused"]++
			testRefused(t, fmt.Sprintf("%+v", code), code)
			return
		}
		c["taken"]++
		less := tidied(t, code)
		testNoMore(t, code, less)
		testIsTidy(t, less)
		testSame(t, code, less, m.picks(len(code.Threads)))
	})
	c.wants(t, 500, "refused", "taken")
}
