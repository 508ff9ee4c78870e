package walk_test

import (
	"slices"
	"strings"
	"testing"

	"turnstile/api"
)

// testSteps holds how many steps the picks of a run take, the last of which takes some: with this fuel and with more the run is not short; with less, the last leap is not made, or one ahead of it.
func testSteps(t *testing.T, c api.Code, picks []int, steps int) {
	t.Helper()
	all := run(c, picks, plenty)
	if all.e != api.OK || all.Short {
		t.Fatalf("%s: with plenty: %v", textOf(c), all)
	}
	for _, fuel := range []int{steps, steps + 1, steps + 2, 2 * steps, api.MaxFuel} {
		testRun(t, textOf(c), c, picks, fuel, all.String())
	}
	if steps == 1 {
		return
	}
	ahead := run(c, picks[:len(picks)-1], plenty).String() + " short"
	testRun(t, textOf(c), c, picks, steps-1, ahead)
	// The run has ended: what comes behind is not done, be it what it may.
	for _, i := range []int{0, 1, 2, -1} {
		testRun(t, textOf(c), c, append(slices.Clone(picks), i, i), steps-1, ahead)
	}
	for fuel := 1; fuel < min(steps, 300); fuel++ {
		if got := run(c, picks, fuel); !got.Short || got.e != api.OK {
			t.Errorf("%s: with the fuel %d of %d: %v", textOf(c), fuel, steps, got)
		}
	}
}

// TestStepsOfKinds holds that each instruction, and each end of a block, is a step. (P10.1)
func TestStepsOfKinds(t *testing.T) {
	for list, steps := range map[string]int{
		"": 0, "const r0 5": 1, "const r0 5/const r1 6": 2, "move r0 r1": 1, "calc add r0 r1 r2": 1, "calc eq r0 r4 r5": 1, "shared r4 1": 1, "shared r4 1/nil r4": 2, "index r0 1": 1, "jump 1/block": 1, "branch r0 1 1/block": 1, "jump 1/block/jump 2/block/jump 3/block": 3,
		"const r0 1/branch r0 1 2/block/const r0 5/jump 3/block/jump 3/block": 4, "branch r0 1 2/block/const r0 5/jump 3/block/jump 3/block": 2, "const r0 3/const r1 1/jump 1/block/calc sub r0 r0 r1/branch r0 1 2/block": 3 + 3*2,
	} {
		testSteps(t, read(t, 3, list+"/print r0/halt"), []int{0}, steps+1)
		testSteps(t, read(t, 3, list+"/halt"), []int{0}, steps+1)
		testSteps(t, read(t, 3, "begin/"+list+"/end/halt"), []int{0}, steps+2)
		testSteps(t, read(t, 3, list+"/begin/end/halt"), []int{0}, steps+2)
		if outside := !strings.Contains(list, "shared"); outside {
			testSteps(t, read(t, 3, list+"/nil r6/halt"), []int{0}, steps+1)
		}
	}
	for list, steps := range map[string]int{
		"print r0": 1, "print r0/print r0": 2, "new r4 64 0": 1, "shared r4 1/load r0 r4 - 0": 2, "shared r4 1/store r0 r4 - 0": 2, "new r4 1 0/ownload r0 r4 - 0": 2, "new r4 1 0/ownstore r0 r4 r1 0/load r0 r4 - 0": 3, "jump 1/block/print r1/jump 2/block/print r2": 4,
	} {
		testSteps(t, read(t, 3, "begin/"+list+"/end/halt"), []int{0}, steps+2)
		// One in the midst of which there is an error is a step, too.
		for _, fault := range []string{"nil r6", "index r3 9/calc div r0 r0 r3", "const r3 9/index r3 9", "load r0 r6 - 0", "store r0 r6 - 0", "ownload r0 r6 - 0", "ownstore r0 r6 - 0"} {
			testSteps(t, read(t, 3, "begin/"+list+"/"+fault+"/print r0/end/halt"), []int{0}, 1+steps+strings.Count(fault, "/")+1)
		}
	}
	testSteps(t, read(t, api.MaxHeap, "begin/new r4 1 0/end/halt"), []int{0}, 2)
}

// TestStepsOfLeaps holds how many steps each kind of leap takes: one that tells what waits takes none, nor does a pick that does nothing.
func TestStepsOfLeaps(t *testing.T) {
	c := read(t, 3, "begin/print r0/print r1/end/print r2/const r0 5/halt", "begin/end/print r0/calc div r0 r0 r0/halt")
	testSteps(t, c, []int{0}, 4)
	testSteps(t, c, []int{0, 0, 0, 0}, 5)
	testSteps(t, c, []int{0, 0, 0, 0, 0}, 7)
	testSteps(t, c, []int{1}, 2)
	testSteps(t, c, []int{1, 1, 1}, 4)
	testSteps(t, c, []int{0, 1}, 6)
	testSteps(t, c, []int{0, 0, 1}, 6)
	testSteps(t, c, []int{0, 0, 1, 1, 0, -1, 1, 1, 1, 0, 2, 0, 0, 0}[:12], 11)
	for fuel, want := range map[int]string{
		1: ".. | .. short", 3: ".. | .. short", 4: "0 0 .. | .. short", 5: "0 0 0 .. | .. short", 6: "0 0 0 .. | .. short", 7: "0 0 0 done | .. short", 8: "0 0 0 done | .. short", 9: "0 0 0 done | .. short", 10: "0 0 0 done | 0 .. short", 11: "0 0 0 done | 0 zero",
	} {
		testRun(t, fuel, c, picked(t, "0*9 1*9"), fuel, want)
	}
	// The fuel is used up, but what is left takes none.
	testRun(t, "what waits", c, []int{0, 0, 0}, 4, "0 0 .. | ..")
	testRun(t, "what waits", c, []int{0, 0, -1, 0, 7}, 4, "0 0 .. | ..")
	testRun(t, "who has ended", read(t, 3, "halt", "print r0/halt"), []int{0, 0, 0, 0}, 1, "done | ..")
	testRun(t, "who has ended", read(t, 3, "nil r4/halt", "print r0/halt"), []int{0, 0, 1, 0}, 1, "nil | .. short")
	// A run that is short has ended, for threads too that need no fuel.
	testRun(t, "short", c, []int{0, 1, 0, 0, 1}, 5, ".. | .. short")
	testRun(t, "short", read(t, 3, "print r0/halt", "const r0 1/const r0 2/print r0/halt"), []int{1, 0, 0}, 2, ".. | .. short")
}

// TestEndless holds that runs end whose graphs do not, whatever fuel they have.
func TestEndless(t *testing.T) {
	for _, text := range []string{"jump 0", "const r0 1/branch r0 0 0", "begin/jump 1/block/jump 1", "begin/jump 1/block/print r0/jump 1", "begin/jump 1/block/shared r4 1/store r0 r4 - 0/jump 1", "jump 1/block/jump 2/block/branch r0 0 1"} {
		for _, fuel := range []int{1, 2, 3, 10, 1000, api.MaxFuel - 1, api.MaxFuel} {
			testRun(t, text, read(t, 3, text, "print r0/halt"), []int{0, 0, 1}, fuel, ".. | .. short")
		}
	}
	// Words are made till there are no more.
	testRun(t, "new words", read(t, 3, "begin/new r4 64 0/end/jump 0"), make([]int, api.MaxPicks), api.MaxFuel, "memory")
	testRun(t, "new words in a block", read(t, 3, "begin/jump 1/block/new r4 64 0/jump 1"), []int{0}, api.MaxFuel, "memory")
	// The most picks, and the most fuel.
	got := run(read(t, 3, "print r0/jump 0"), make([]int, api.MaxPicks), 2*api.MaxPicks)
	if len(got.Seen[0].Out) != api.MaxPicks || got.Short {
		t.Errorf("%d numbers are told", len(got.Seen[0].Out))
	}
	// Two steps each time, and four beside them.
	counts := func(down int64) api.Code {
		return read(t, 3, "const r0 "+number(down)+"/const r1 1/jump 1/block/calc sub r0 r0 r1/branch r0 1 2/block/halt")
	}
	testRun(t, "as many steps as there may be", counts(api.MaxFuel/2-2), []int{0}, api.MaxFuel, "done")
	testRun(t, "as many, and one step less", counts(api.MaxFuel/2-2), []int{0}, api.MaxFuel-1, ".. short")
	testRun(t, "more steps than there may be", counts(api.MaxFuel/2-1), []int{0}, api.MaxFuel, ".. short")
}
