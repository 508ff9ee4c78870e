package ir_test

import (
	"fmt"
	"math"
	"slices"
	"testing"

	"turnstile/api"
)

// fieldNames are those of an instruction, but for its kind.
func fieldNames() []string { return []string{"Calc", "A", "B", "C", "N"} }

// with is an instruction with another number in a field; false, if the field has no room for it.
func with(i api.Ins, field string, n int64) (api.Ins, bool) {
	switch field {
	case "Calc":
		i.Calc = api.Calc(n)
		return i, n >= 0 && n <= math.MaxUint8
	case "A":
		i.A = int(n)
	case "B":
		i.B = int(n)
	case "C":
		i.C = int(n)
	case "N":
		i.N = n
	}
	return i, true
}

// values are numbers of all sorts: those just within and just beyond what any field may be, and numbers of more bits.
func values() []int64 {
	l := []int64{1 << 31, 1 << 32, 1<<32 + 1, 1<<32 - 1, -1 << 31, -1 << 32, math.MaxInt64, math.MinInt64, math.MaxInt64 - 1, math.MinInt64 + 1, 127, 128, 255, 256, 257, 1023, 1024, 1025, 8191, 8192, 8193, 65535, 65536, 65537, -64, -65, -255, -256}
	for n := range int64(70) {
		l = append(l, n-3)
	}
	return l
}

// someNumbers are those numbers from one to another.
func someNumbers(from, to int64) (l []int64) {
	for n := from; n <= to; n++ {
		l = append(l, n)
	}
	return l
}

// testIns holds whether an instruction may be by itself: within a block of the language and in one that is not reached, in the first thread and in another one, at the beginning of a block and behind others.
func testIns(t *testing.T, i api.Ins, right bool) {
	t.Helper()
	first, rest := jump(1, begin()), []api.Ins{constant(0, 1), end()}
	switch i.Kind {
	case api.InBegin:
		first = jump(1)
	case api.InEnd:
		rest = rest[:1]
	}
	reached := graph(first, halt(slices.Concat([]api.Ins{i}, rest)...))
	unreached := graph(halt(), branch(0, 0, 1, move(0, 1), tell(2), i, constant(0, 1)))
	want := func(thread, block, ins int) found {
		if right {
			return nothing()
		}
		return graphFault(thread, block, ins)
	}
	what := fmt.Sprintf("%+v", i)
	testCheck(t, what, code(reached), want(0, 1, 0))
	testCheck(t, what, code(unreached), want(0, 1, 2))
	testCheck(t, what, code(unreached, reached), want(0, 1, 2))
	testCheck(t, what, code(atOnce(), atOnce(), reached), want(2, 1, 0))
}

// row is an instruction that may be, and what may stand in the fields in which something else than 0 may.
type row struct {
	ins   api.Ins
	right map[string][]int64
}

func fieldRows() []row {
	numbers, references, all := []int64{0, 1, 2}, []int64{3, 4, 5}, []int64{0, 1, 2, 3, 4, 5}
	none := []int64{-1, 0, 1, 2}
	toArray := someNumbers(1, 64)
	rows := []row{
		{constant(1, 0), map[string][]int64{"A": all, "N": values()}},
		{constant(1, 5), map[string][]int64{"A": numbers, "N": values()}},
		{constant(4, 0), map[string][]int64{"A": all, "N": {0}}},
		{move(1, 2), map[string][]int64{"A": numbers, "B": numbers}},
		{move(4, 3), map[string][]int64{"A": references, "B": references}},
		{isNil(3), map[string][]int64{"B": references}},
		{index(1, 4), map[string][]int64{"B": numbers, "N": toArray}},
		{shared(4, 3), map[string][]int64{"A": references, "N": someNumbers(1, 7)}},
		{made(5, 8, 1), map[string][]int64{"A": references, "N": toArray, "C": {0, 1, 2}}},
		{tell(1), map[string][]int64{"B": numbers}},
		{begin(), nil},
		{end(), nil},
	}
	for of := api.CalcAdd; of <= api.CalcLe; of++ {
		rows = append(rows, row{calc(of, 0, 1, 2), map[string][]int64{"Calc": someNumbers(1, 14), "A": numbers, "B": numbers, "C": numbers}})
	}
	for _, of := range []api.Calc{api.CalcEq, api.CalcNe} {
		rows = append(rows, row{calc(of, 0, 3, 5), map[string][]int64{"Calc": {int64(api.CalcEq), int64(api.CalcNe)}, "A": numbers, "B": references, "C": references}})
	}
	for _, kind := range accesses() {
		for _, i := range []api.Ins{access(kind, 0, 3, -1, 0), access(kind, 4, 5, 2, 64)} {
			rows = append(rows, row{i, map[string][]int64{"A": all, "B": references, "C": none, "N": someNumbers(0, 64)}})
		}
	}
	return rows
}

// TestFields holds each field of each kind: what may stand there, and that nothing else may. (P9.1)
func TestFields(t *testing.T) {
	for _, r := range fieldRows() {
		testIns(t, r.ins, true)
		for _, field := range fieldNames() {
			for _, n := range values() {
				i, room := with(r.ins, field, n)
				if !room {
					continue
				}
				right := n == 0
				if l, has := r.right[field]; has {
					right = slices.Contains(l, n)
				}
				testIns(t, i, right)
			}
		}
	}
}

// TestKindsThatAreNone holds that they may not be, whatever their fields are.
func TestKindsThatAreNone(t *testing.T) {
	for _, kind := range []api.InsKind{api.InNone, api.InEnd + 1, api.InEnd + 2, 100, 254, 255} {
		testIns(t, api.Ins{Kind: kind}, false)
		for _, r := range fieldRows() {
			i := r.ins
			i.Kind = kind
			testIns(t, i, false)
		}
	}
	for _, kind := range []api.LastKind{api.LaNone, api.LaHalt + 1, api.LaHalt + 2, 100, 254, 255} {
		for _, b := range []api.Block{{}, {Yes: 1}, {Reg: 1, Yes: 1, No: 2}} {
			b.Last = kind
			testLast(t, b, false)
		}
	}
}

// TestCalcOfReferences holds that they may be asked whether they are alike, and nothing else. (P9.1)
func TestCalcOfReferences(t *testing.T) {
	for of := range 256 {
		of := api.Calc(of)
		right := of >= api.CalcAdd && of <= api.CalcLe
		testIns(t, calc(of, 0, 1, 2), right)
		testIns(t, calc(of, 2, 2, 2), right)
		alike := of == api.CalcEq || of == api.CalcNe
		testIns(t, calc(of, 0, 3, 5), alike)
		testIns(t, calc(of, 1, 4, 4), alike)
		for _, i := range []api.Ins{calc(of, 0, 3, 1), calc(of, 0, 1, 3), calc(of, 3, 1, 2), calc(of, 3, 4, 5), calc(of, 3, 3, 1), calc(of, 3, 1, 3), calc(of, 0, 1, -1), calc(of, 0, -1, -1), calc(of, 0, 3, -1), calc(of, 0, 3, 6)} {
			testIns(t, i, false)
		}
	}
}

// TestRegistersThatThereAreNot holds that a graph of no register has none, and one of a single register that one alone. (P9.1)
func TestRegistersThatThereAreNot(t *testing.T) {
	all := []api.Ins{constant(0, 0), move(0, 0), calc(api.CalcAdd, 0, 0, 0), calc(api.CalcEq, 0, 0, 0), isNil(0), index(0, 1), shared(0, 1), made(0, 1, 0), tell(0), access(api.InLoad, 0, 0, -1, 0), access(api.InStore, 0, 0, -1, 0), access(api.InOwnLoad, 0, 0, -1, 0), access(api.InOwnStore, 0, 0, -1, 0)}
	number := []bool{true, true, true, true, false, true, false, false, true, false, false, false, false}
	reference := []bool{true, true, false, false, true, false, true, true, false, true, true, true, true}
	for k, i := range all {
		for sort, right := range map[string]bool{"": false, "n": number[k], "r": reference[k]} {
			g := api.Graph{Refs: sorts(sort), Sites: 1, Blocks: []api.Block{jump(1, begin()), jump(1, i)}}
			want := graphFault(0, 1, 0)
			if right {
				want = nothing()
			}
			testCheck(t, fmt.Sprintf("%+v of the registers %q", i, sort), code(g), want)
		}
	}
	for sort, right := range map[string]bool{"": false, "n": true, "r": false, "nr": true, "rn": false} {
		want := graphFault(0, 0, 0)
		if right {
			want = nothing()
		}
		testCheck(t, fmt.Sprintf("a branch of the registers %q", sort), code(api.Graph{Refs: sorts(sort), Blocks: []api.Block{branch(0, 0, 0)}}), want)
	}
	// Ends and instructions that have no register need none.
	testCheck(t, "no register", code(api.Graph{Blocks: []api.Block{jump(1, begin(), end()), halt()}}), nothing())
}

// testLast holds whether an end may be by itself, in a graph of three blocks: in one that is reached and in one that is not, with instructions ahead and without.
func testLast(t *testing.T, b api.Block, right bool) {
	t.Helper()
	what := fmt.Sprintf("%+v", b)
	want := func(thread, block, ins int) found {
		if right {
			return nothing()
		}
		return graphFault(thread, block, ins)
	}
	testCheck(t, what, code(graph(b, halt(), halt())), want(0, 0, 0))
	testCheck(t, what, code(atOnce(), graph(halt(), jump(2, move(0, 1)), b)), want(1, 2, 0))
	b.Ins = []api.Ins{begin(), end(), tell(0)}
	testCheck(t, what, code(atOnce(), atOnce(), atOnce(), graph(jump(1), b, halt())), want(3, 1, 3))
}

// TestEnds holds each field of each end: what may stand there, and that nothing else may. (P9.1)
func TestEnds(t *testing.T) {
	blocks, numbers, nought := []int64{0, 1, 2}, []int64{0, 1, 2}, []int64{0}
	for _, r := range []struct {
		b            api.Block
		reg, yes, no []int64
	}{
		{jump(0), nought, blocks, nought},
		{jump(2), nought, blocks, nought},
		{branch(0, 0, 0), numbers, blocks, blocks},
		{branch(2, 1, 2), numbers, blocks, blocks},
		{halt(), nought, nought, nought},
	} {
		testLast(t, r.b, true)
		for _, n := range values() {
			reg, yes, no := r.b, r.b, r.b
			reg.Reg, yes.Yes, no.No = int(n), int(n), int(n)
			testLast(t, reg, slices.Contains(r.reg, n))
			testLast(t, yes, slices.Contains(r.yes, n))
			testLast(t, no, slices.Contains(r.no, n))
		}
	}
}

// TestSharedWords holds N of InShared for programs with other Words. (P9.1)
func TestSharedWords(t *testing.T) {
	for _, words := range []int{0, 1, 2, 64, 65, 1000, api.MaxHeap - 1, api.MaxHeap} {
		for _, n := range []int{-1, 0, 1, 2, 3, 63, 64, 65, 66, 999, 1000, 1001, api.MaxHeap - 2, api.MaxHeap - 1, api.MaxHeap, api.MaxHeap + 1} {
			c := code(graph(halt(shared(3, int64(n)))))
			c.Words = words
			want := graphFault(0, 0, 0)
			if n >= 1 && n <= words {
				want = nothing()
			}
			testCheck(t, fmt.Sprintf("shared %d of %d", n, words), c, want)
		}
	}
}

// TestSites holds C of InNew: there must be such a site, and no InNew ahead may have it. (P9.1)
func TestSites(t *testing.T) {
	one := func(site int) api.Ins { return made(3, 1, site) }
	test := func(what string, sites int, want found, blocks ...api.Block) {
		t.Helper()
		g := graph(blocks...)
		g.Sites = sites
		testCheck(t, what, code(g), want)
		want.thread = map[bool]int{true: 0, false: 2}[want == nothing()]
		testCheck(t, what, code(atOnce(), atOnce(), g), want)
	}
	for _, sites := range []int{0, 1, 2, 8191, 8192} {
		for _, site := range []int{-1, 0, 1, 2, sites - 1, sites, sites + 1, 8192, -sites, math.MinInt, math.MaxInt} {
			want := graphFault(0, 0, 1)
			if site >= 0 && site < sites {
				want = nothing()
			}
			test(fmt.Sprintf("site %d of %d", site, sites), sites, want, halt(begin(), one(site), end()))
		}
	}
	test("each once", 3, nothing(), halt(begin(), one(2), one(0), one(1), end()))
	test("not all", 3, nothing(), halt(begin(), one(1), end()))
	test("twice in one block", 3, graphFault(0, 0, 3), halt(begin(), one(1), one(0), one(1), one(0), end()))
	test("twice, one behind the other", 1, graphFault(0, 0, 2), halt(begin(), one(0), one(0), end()))
	test("twice in two blocks", 3, graphFault(0, 1, 1), jump(1, begin(), one(2), end()), halt(begin(), one(2), end()))
	test("twice, the later one run first", 3, graphFault(0, 2, 1), jump(2), halt(begin(), one(2), end()), jump(1, begin(), one(2), end()))
	test("twice, the first one not reached", 3, graphFault(0, 2, 1), jump(2), halt(one(0)), halt(begin(), one(0), end()))
	test("twice, the later one not reached", 3, graphFault(0, 1, 0), halt(begin(), one(0), end()), halt(one(0)))
	test("twice on ways that never meet", 3, graphFault(0, 2, 0), branch(0, 1, 2, begin()), halt(one(0), end()), halt(one(0), end()))
	test("three times", 3, graphFault(0, 0, 2), halt(begin(), one(0), one(0), one(0), end()))
	test("twice with another length and register", 3, graphFault(0, 0, 2), halt(begin(), made(3, 1, 0), made(4, 2, 0), end()))
	twice := graph(halt(begin(), one(0), end()))
	testCheck(t, "in each thread", code(twice, twice, twice, twice), nothing())
	again := graph(jump(0, begin(), one(0), end()))
	testCheck(t, "one that is done again and again", code(again), nothing())
}
