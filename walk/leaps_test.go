package walk_test

import (
	"slices"
	"testing"

	"turnstile/api"
	"turnstile/ir"
)

// TestNothingToDo holds runs in which there is no thread, or no pick.
func TestNothingToDo(t *testing.T) {
	for _, picks := range []string{"", "0", "-1", "0 1 2 3 4 -9"} {
		testRows(t, api.Code{}, row{picks, ""})
		testRows(t, read(t, 7), row{picks, ""})
	}
	testRows(t, read(t, 7, "print r0/halt"), row{"", ".."})
	testRows(t, read(t, 7, "halt", "calc div r0 r0 r0/halt", "jump 0", blocks("nil r4")), row{"", ".. | .. | .. | .."})
}

// TestPrints holds that an InPrint outside ends a leap, and that those of a block wait.
func TestPrints(t *testing.T) {
	testRows(t, read(t, 0, "const r0 1/print r0/const r0 2/print r0/print r1/halt"), row{"0", "1 .."}, row{"0 0", "1 2 .."}, row{"0*3", "1 2 0 .."}, row{"0*4", "1 2 0 done"}, row{"0*9", "1 2 0 done"})
	const waits = "begin/const r0 1/print r0/const r0 2/print r0/print r0/end/print r1/begin/print r0/end/begin/end/const r0 3/print r0/halt"
	testRows(t, read(t, 0, waits),
		row{"0", ".."}, row{"0 0", "1 .."}, row{"0*3", "1 2 .."}, row{"0*4", "1 2 2 .."}, row{"0*5", "1 2 2 0 .."}, row{"0*6", "1 2 2 0 .."}, row{"0*7", "1 2 2 0 2 .."}, row{"0*8", "1 2 2 0 2 .."}, row{"0*9", "1 2 2 0 2 3 .."}, row{"0*10", "1 2 2 0 2 3 done"})
	// A pick of a thread of which a print waits does nothing else: the block behind is done later.
	const counts = "begin/shared r4 1/load r0 r4 - 0/print r0/print r0/const r1 1/calc add r0 r0 r1/store r0 r4 - 0/end/"
	testRows(t, read(t, 1, counts+counts+"halt", lookWord),
		row{"0 1 1", ".. | 1 .."}, row{"0 0 1 1", "0 .. | 1 .."}, row{"0*3 1 1", "0 0 .. | 1 .."}, row{"0*4 1 1", "0 0 .. | 2 .."}, row{"0*5 1 1", "0 0 1 .. | 2 .."}, row{"0*7 1*3", "0 0 1 1 done | 2 done"}, row{"1 1 0*3", "0 0 .. | 0 .."})
	// Another thread's print comes in between, and takes none of those that wait.
	testRows(t, read(t, 0, "begin/const r0 1/print r0/const r0 2/print r0/end/halt", "begin/const r0 3/print r0/end/const r0 4/print r0/halt"),
		row{"0 1 0 1 0 1", "1 2 .. | 3 4 .."}, row{"1 0 1 1 1 0", "1 .. | 3 4 done"}, row{"0 1 1 1 1 0*3", "1 2 done | 3 4 done"})
}

// TestLeaps holds where a leap ends: at what may be seen, at no jump and no other instruction.
func TestLeaps(t *testing.T) {
	testRows(t, read(t, 2, "const r0 4/jump 1/block/move r1 r0/branch r1 2 0/block/calc add r2 r0 r1/jump 3/block/print r2/calc mul r2 r2 r2/jump 4/block/halt"), row{"0", "8 .."}, row{"0 0", "8 done"})
	testRows(t, read(t, 2, "begin/end/begin/end/halt"), row{"0", ".."}, row{"0 0", ".."}, row{"0*3", "done"})
	testRows(t, read(t, 2, "const r0 1/begin/jump 1/block/shared r4 1/store r0 r4 - 0/jump 2/block/end/jump 3/block/halt", lookWord), row{"0 1 1", ".. | 1 .."}, row{"0 0 1 1", "done | 1 .."}, row{"1 1 0", ".. | 0 .."})
	testRows(t, read(t, 2, "const r0 1/calc div r0 r0 r1/print r0/halt"), row{"0", "zero"}, row{"0 0", "zero"})
}

// TestPicks holds what picks do of threads that there are not, and of such as have ended.
func TestPicks(t *testing.T) {
	c := read(t, 2, "print r0/halt", "const r0 1/print r0/calc div r0 r0 r1/halt", "nil r4/halt", "const r0 5/print r0/index r0 2/halt")
	const all = "0 done | 1 zero | nil | 5 index"
	testRows(t, c, row{"0 0 1 1 2 3 3", all}, row{"3 2 1 0 3 2 1 0 3 2 1 0", all}, row{"2 2 2 2 0 1 1 0 0 1 3 3 0", all}, row{"-1 0 4 0 99 1 -5 1 2 3 -1 3 4", all},
		row{"-1 4 5", ".. | .. | .. | .."}, row{"2 -1", ".. | .. | nil | .."}, row{"0 0 0 0 0", "0 done | .. | .. | .."})
	huge := []int{1 << 62, -1 << 63, 1<<63 - 1, 1 << 32, -1 << 32, 1<<32 + 1, 256, -256}
	testRun(t, "huge picks", c, slices.Concat(huge, []int{0, 1}, huge, []int{0, 1, 2}, huge, []int{3, 3}, huge), plenty, all)
	// Threads that end in all the ways that there are.
	ends := read(t, api.MaxHeap, "begin/new r4 1 0/end/halt", "begin/load r0 r4 - 0/end/halt", "begin/const r1 1/store r1 r4 - 0/end/halt", "begin/end/halt")
	testRows(t, ends, row{"0 1 2 3 3", "memory | fault | fault | done"}, row{"3 2 1 0 3", "memory | fault | fault | done"}, row{"0 0 1 1 2 2 3 3 0 1 2 3", "memory | fault | fault | done"})
}

// TestMostThreads holds as many threads as there may be, alike, each of which stands for itself.
func TestMostThreads(t *testing.T) {
	const text = "begin/shared r4 1/load r0 r4 - 0/const r1 1/calc add r0 r0 r1/store r0 r4 - 0/print r0/end/halt"
	c := read(t, 1, text, text, text, text)
	testRows(t, c, row{"0 1 2 3 0 1 2 3 0 1 2 3", "1 done | 2 done | 3 done | 4 done"}, row{"3 3 3 1 1 0 2 2", ".. | 2 .. | 4 .. | 1 done"})
}

// TestTurns holds runs in which two threads take turns at the same words.
func TestTurns(t *testing.T) {
	const twice = "begin/shared r4 1/load r0 r4 - 0/print r0/calc add r0 r0 r0/const r1 1/calc add r0 r0 r1/store r0 r4 - 0/end/jump 0"
	testRows(t, read(t, 1, twice, twice), row{"0 1 0 1 0 1 0 1", "0 3 .. | 1 7 .."}, row{"0 1 1 0 1 0", "0 .. | 1 .."}, row{"0*4 1*4 0*2", "0 1 15 .. | 3 7 .."})
	// One makes something and shows it, the other one follows it.
	const gives = "const r1 5/begin/new r5 3 0/store r1 r5 - 2/shared r4 2/store r5 r4 - 0/end/begin/shared r4 2/load r6 r4 - 0/nil r6/load r0 r6 - 2/print r0/end/halt"
	const takes = "begin/shared r4 2/load r5 r4 - 0/end/nil r5/begin/load r0 r5 - 2/print r0/const r1 6/store r1 r5 - 2/shared r4 2/const r6 0/store r6 r4 - 0/end/begin/load r0 r5 - 2/print r0/end/halt"
	testRows(t, read(t, 2, gives, takes),
		row{"0 0 0 0 1*9", "5 done | 5 6 done"}, row{"0 1 0 0 1*9", "5 .. | 5 6 done"}, row{"0 1 1 0 1*9", "nil | 5 6 done"}, row{"1 1 0*4", "5 done | nil"}, row{"0 1 1 1 1 1 0*2", "nil | 5 6 .."})
}

// TestWordsByOthersNames holds that a word that another thread has made is met by its number, as soon as it is there.
func TestWordsByOthersNames(t *testing.T) {
	c := read(t, 3, "const r0 8/begin/new r4 2 0/store r0 r4 - 1/end/halt", "begin/"+reference("r5", 5)+"load r0 r5 - 0/print r0/end/halt")
	testRows(t, c, row{"0 1 1", ".. | 8 .."}, row{"1 1 0", ".. | fault"})
	// There are no words of a block that was undone.
	c = read(t, 3, "const r0 8/begin/new r4 2 0/store r0 r4 - 1/nil r6/end/halt", "begin/"+reference("r5", 5)+"load r0 r5 - 0/print r0/end/halt")
	testRows(t, c, row{"0 1 1", "nil | fault"}, row{"1 1 0", "nil | fault"})
}

// TestGreatestGraphs holds graphs with as much in them as there may be.
func TestGreatestGraphs(t *testing.T) {
	g := api.Graph{Refs: make([]bool, api.MaxRegs), Blocks: make([]api.Block, api.MaxBlocks)}
	last := api.MaxRegs - 1
	for n := range g.Blocks {
		g.Blocks[n] = api.Block{Last: api.LaJump, Yes: n + 1, Ins: []api.Ins{{Kind: api.InConst, A: 0, N: 1}, {Kind: api.InCalc, Calc: api.CalcAdd, A: last, B: last, C: 0}}}
	}
	end := &g.Blocks[api.MaxBlocks-1]
	end.Last, end.Yes = api.LaHalt, 0
	end.Ins[0] = api.Ins{Kind: api.InPrint, B: last}
	c := api.Code{Words: api.MaxHeap, Threads: []api.Graph{g, g, g, g}}
	if _, at, e := ir.Check(c); e != api.OK {
		t.Fatal(at, e)
	}
	testRows(t, c, row{"2 0 2", "4095 .. | .. | 4095 done | .."})
}
