package walk_test

import (
	"strings"
	"testing"

	"turnstile/api"
)

const (
	least = "-9223372036854775808"
	most  = "9223372036854775807"
)

// TestConst holds what InConst does, to both sorts of registers.
func TestConst(t *testing.T) {
	for _, n := range []string{"0", "1", "-1", "5", least, most} {
		testThread(t, "const r0 "+n+"/print r0/halt", n+" done")
		testInside(t, "const r0 "+n+"/print r0", n+" done")
	}
	testThread(t, "const r0 5/const r0 6/const r1 7/print r0/halt", "6 done")
	testInside(t, "shared r4 1/nil r4/const r4 0/nil r4", "nil")
	testInside(t, "shared r4 1/shared r5 1/const r4 0/nil r5", "done")
}

// TestAtFirst holds that all registers and all shared words are 0.
func TestAtFirst(t *testing.T) {
	testThread(t, "print r0/print r1/print r2/print r3/calc eq r0 r4 r5/print r0/halt", "0 0 0 0 1 done")
	testThread(t, "nil r7/halt", "nil")
	for _, w := range []string{"1", "2", "7"} {
		testInside(t, "shared r4 "+w+"/load r0 r4 - 0/print r0", "0 done")
		testInside(t, "shared r4 "+w+"/load r5 r4 - 0/nil r5", "nil")
	}
	// Each thread has registers of its own.
	testRows(t, read(t, 0, "const r0 5/print r0/print r0/halt", "print r0/const r0 6/print r0/halt"), row{"0 1 0 1 0 1", "5 5 done | 0 6 done"}, row{"1 1 0 0", "5 5 .. | 0 6 .."})
}

// TestMove holds what InMove does.
func TestMove(t *testing.T) {
	testThread(t, "const r0 5/move r1 r0/const r0 6/print r0/print r1/halt", "6 5 done")
	testThread(t, "const r0 5/move r0 r0/print r0/move r0 r1/print r0/halt", "5 0 done")
	testInside(t, "const r0 5/shared r4 3/store r0 r4 - 0/move r5 r4/shared r4 2/load r1 r5 - 0/print r1/load r1 r4 - 0/print r1", "5 0 done")
	testInside(t, "shared r4 3/move r4 r5/nil r4", "nil")
}

// TestCalc holds what InCalc does, with each of the operations.
func TestCalc(t *testing.T) {
	for _, l := range []string{
		"add 7 2 9", "add -7 2 -5", "add " + most + " 1 " + least, "add " + least + " -1 " + most, "sub 7 2 5", "sub 2 7 -5", "sub 0 " + least + " " + least, "sub " + least + " 1 " + most, "mul 7 -2 -14", "mul " + most + " 2 -2", "mul " + least + " -1 " + least, "mul 4294967296 4294967296 0",
		"div 7 2 3", "div -7 2 -3", "div 7 -2 -3", "div " + least + " -1 " + least, "div 0 5 0", "mod 7 2 1", "mod -7 2 -1", "mod 7 -2 1", "mod " + least + " -1 0", "div 7 0 zero", "mod 7 0 zero", "div 0 0 zero", "mod 0 0 zero", "div " + least + " 0 zero",
		"and 12 10 8", "and -1 5 5", "or 12 10 14", "or -2 1 -1", "xor 12 10 6", "xor -1 0 -1", "shl 1 65 2", "shl 3 62 -4611686018427387904", "shl 1 63 " + least, "shl 5 0 5", "shr -1 60 15", "shr -1 -4 15", "shr -1 64 -1", "shr " + least + " 63 1",
		"eq 7 7 1", "eq 7 2 0", "ne 7 7 0", "ne 7 2 1", "lt -1 0 1", "lt 0 0 0", "lt 1 0 0", "lt " + least + " " + most + " 1", "le -1 0 1", "le 0 0 1", "le 1 0 0", "le " + most + " " + least + " 0",
	} {
		f := strings.Fields(l)
		set := "const r1 " + f[1] + "/const r2 " + f[2] + "/calc " + f[0]
		want := f[3]
		if want != "zero" {
			want += " done"
		}
		testThread(t, set+" r0 r1 r2/print r0/halt", want)
		testThread(t, set+" r1 r1 r2/print r1/halt", want)
		testThread(t, set+" r2 r1 r2/print r2/halt", want)
		testInside(t, set+" r0 r1 r2/print r0", want)
	}
	// What is asked stays; one register may be asked twice.
	testThread(t, "const r1 7/const r2 2/calc sub r0 r1 r2/print r0/print r1/print r2/halt", "5 7 2 done")
	testThread(t, "const r1 7/calc mul r0 r1 r1/print r0/calc sub r1 r1 r1/print r1/halt", "49 0 done")
}

// TestCalcOfReferences holds CalcEq and CalcNe of references.
func TestCalcOfReferences(t *testing.T) {
	for pair, same := range map[string]string{
		"": "1", "shared r4 1": "0", "shared r5 3": "0", "shared r4 3/shared r5 3": "1", "shared r4 3/shared r5 2": "0", "new r4 1 0": "0", "new r4 1 0/move r5 r4": "1", "new r4 1 0/new r5 1 1": "0", "new r4 2 0/new r5 2 1/const r4 0/const r5 0": "1", "shared r4 3/move r5 r4/shared r4 2": "0",
	} {
		not := map[string]string{"0": "1", "1": "0"}[same]
		testInside(t, strings.TrimPrefix(pair+"/calc eq r0 r4 r5/print r0/calc ne r0 r4 r5/print r0/calc eq r0 r5 r4/print r0/calc eq r0 r4 r4/print r0/calc ne r0 r5 r5/print r0", "/"), same+" "+not+" "+same+" 1 0 done")
	}
}

// TestNil holds what InNil does: at 0, and at other numbers.
func TestNil(t *testing.T) {
	testThread(t, "const r0 5/nil r4/print r0/halt", "nil")
	testThread(t, "print r0/const r0 5/nil r4/print r0/halt", "0 nil")
	testInside(t, "nil r4", "nil")
	for _, n := range []int64{1, 2, 7, 8, -1, 1 << 62, -1 << 63, 1 << 32} {
		testThread(t, blocks(reference("r4", n)+"nil r4/print r0/nil r4"), "0 done")
		testThread(t, "begin/"+reference("r4", n)+"end/nil r4/print r0/halt", "0 done")
	}
	testThread(t, blocks(reference("r4", 0)+"nil r4"), "nil")
}

// TestIndex holds what InIndex does: below 0, from 0 to N - 1, and above.
func TestIndex(t *testing.T) {
	for _, n := range []string{"1", "2", "5", "63", "64"} {
		for at, want := range map[string]string{"-1": "index", "0": "5 done", "$": "5 done", n: "index", least: "index", most: "index", "4294967296": "index", "65": "index"} {
			if at == "$" {
				at = map[string]string{"1": "0", "2": "1", "5": "4", "63": "62", "64": "63"}[n]
			}
			testThread(t, "const r0 "+at+"/const r1 5/index r0 "+n+"/print r1/halt", want)
			testInside(t, "const r0 "+at+"/const r1 5/index r0 "+n+"/print r1", want)
		}
	}
}

// TestShared holds what InShared does: a register becomes the word's number, which has nothing to do with what the word has.
func TestShared(t *testing.T) {
	testInside(t, "shared r4 3/const r0 5/store r0 r4 - 0/shared r5 1/load r0 r5 - 2/print r0/load r0 r5 - 1/print r0/shared r4 3/load r0 r4 - 0/print r0", "5 0 5 done")
	testThread(t, "shared r4 7/shared r5 6/calc ne r0 r4 r5/print r0/nil r4/begin/store r0 r4 - 0/load r1 r5 - 1/print r1/end/halt", "1 1 done")
}

// numberOf is, within a block, text that tells the number that a register of references has, by way of the word 1.
func numberOf(r string) string {
	return "shared r7 1/store " + r + " r7 - 0/load r3 r7 - 0/print r3/"
}

// TestNew holds the numbers of the words that are made, and that they are 0.
func TestNew(t *testing.T) {
	testThread(t, blocks(numberOf("r4")+"new r4 3 0/"+numberOf("r4")+"new r4 1 1/"+numberOf("r4")+"new r5 64 2/"+numberOf("r5")+"new r5 2 3/"+numberOf("r5"), "new r6 1 4/"+numberOf("r6")), "0 8 11 12 76 78 done")
	// Two threads, in the order in which they make them.
	one := blocks("new r4 2 0/"+numberOf("r4"), "new r4 5 1/"+numberOf("r4"))
	testRows(t, read(t, 3, one, one), row{"0*9 1*9", "4 6 done | 11 13 done"}, row{"1 0 0 1 0 0 0 1 1 1", "6 8 done | 4 13 done"})
	// A loop makes new ones each time, all 0.
	testThread(t, "begin/new r4 2 0/"+numberOf("r4")+"load r0 r4 - 0/print r0/load r0 r4 - 1/print r0/const r0 9/store r0 r4 - 0/store r0 r4 - 1/end/calc add r1 r1 r2/const r2 1/calc add r0 r0 r1/index r1 2/jump 0", "8 0 0 10 0 0 12 0 0 index")
}

// TestMostWords holds that there may be MaxHeap words, the shared ones among them, and not one more.
func TestMostWords(t *testing.T) {
	for _, shared := range []int{api.MaxHeap - 65, api.MaxHeap - 64, api.MaxHeap - 63, api.MaxHeap - 2, api.MaxHeap - 1, api.MaxHeap} {
		for _, n := range []int{1, 2, 62, 63, 64} {
			want := "memory"
			if shared+n <= api.MaxHeap {
				want = "0 done"
			}
			text := "new r5 " + number(int64(n)) + " 0/load r0 r5 - " + number(int64(n-1)) + "/print r0"
			testRows(t, read(t, shared, blocks(text)), row{"0*9", want})
			testRows(t, read(t, shared, blocks("shared r4 1/const r0 9/store r0 r4 - 0/"+text)), row{"0*9", want})
			testRows(t, read(t, shared, "print r1/"+blocks("print r2", text)), row{"0*9", "0 0 " + want})
		}
	}
}

// made is a thread that makes so many words, in blocks of the language, and then does what its text says. The last ones are named by r6, and are at most 64.
func made(many int64, text string) string {
	full := (many - 1) / 64
	return "const r0 " + number(full) + "/const r1 1/branch r0 1 2/block/begin/new r5 64 8/end/calc sub r0 r0 r1/branch r0 1 2/block/begin/new r6 " + number(many-full*64) + " 7/end/" + text
}

// TestMostWordsMade holds the same where most of the words were made, by blocks ahead.
func TestMostWordsMade(t *testing.T) {
	for _, shared := range []int{0, 3, 64} {
		left := int64(api.MaxHeap - shared)
		for text, want := range map[string][3]string{
			// What is told, where none, one and two are left.
			blocks("new r4 1 0/const r0 5/store r0 r4 - 0/load r0 r4 - 0/print r0"):      {"memory", "5 done", "5 done"},
			blocks("new r4 2 0/load r0 r4 - 1/print r0"):                                 {"memory", "memory", "0 done"},
			blocks("print r0/new r4 1 0", "print r1/new r4 1 1", "print r1/new r4 1 2"):  {"memory", "0 memory", "0 1 memory"},
			blocks("print r0/new r4 1 0/new r4 1 1/load r0 r4 - 0/print r0", "print r1"): {"memory", "memory", "0 0 1 done"},
			blocks("new r4 3 0"): {"memory", "memory", "memory"},
			blocks("print r0"):   {"0 done", "0 done", "0 done"},
		} {
			picks := make([]int, left/64+9)
			for none, want := range want {
				testRun(t, text, read(t, shared, made(left-int64(none), text)), picks, api.MaxFuel, want)
			}
		}
		// Others find no room either; what they have they may still use.
		c := read(t, shared, made(left-1, "halt"), blocks("new r4 1 0/const r0 5/store r0 r4 - 0", "load r0 r4 - 0/print r0", "new r4 1 1/store r1 r4 - 0"))
		testRun(t, "two threads", c, append(make([]int, left/64+9), picked(t, "1*9")...), api.MaxFuel, "done | 5 memory")
	}
}

// TestWordsOfBlocksThatAreUndone holds that what a block has made is gone when it is undone: there is room for as many words of others.
func TestWordsOfBlocksThatAreUndone(t *testing.T) {
	const room = 10
	for _, fault := range []string{"nil r6", "const r0 1/index r0 1", "calc div r0 r3 r3", "const r6 0/load r0 r6 - 0", "new r6 10 2"} {
		undone := "begin/new r4 4 0/const r0 5/store r0 r4 - 0/store r0 r4 - 3/new r5 6 1/store r0 r5 - 5/" + fault + "/end/halt"
		made := blocks("new r4 10 0/load r0 r4 - 0/print r0/load r0 r4 - 3/print r0/load r0 r4 - 9/print r0/" + numberOf("r4"))
		c := read(t, api.MaxHeap-room, undone, made)
		if got := run(c, picked(t, "0 1*9"), plenty); got.Seen[1].End != api.EndDone || len(got.Seen[1].Out) != 4 || got.Seen[1].Out[3] != api.MaxHeap-room+1 || got.Seen[1].Out[0]+got.Seen[1].Out[1]+got.Seen[1].Out[2] != 0 {
			t.Errorf("behind a block that ends by %s: %v", fault, got)
		}
		// The other way round there is no room for what the block makes.
		testRows(t, c, row{"1*9 0", "memory | 0 0 0 " + number(api.MaxHeap-room+1) + " done"})
	}
}

// TestNewOutside holds that no word is made outside: such graphs may not be, but where nothing comes to it.
func TestNewOutside(t *testing.T) {
	c := read(t, 1, "print r0/halt/block/new r4 64 0/jump 0")
	testRows(t, c, row{"0 0", "0 done"})
	c.Threads[0].Blocks[0] = api.Block{Last: api.LaJump, Yes: 1}
	testRun(t, "new outside", c, nil, plenty, "the error 14")
}

// TestLasts holds what each end of a block does.
func TestLasts(t *testing.T) {
	testThread(t, "halt", "done")
	testThread(t, "jump 2/block/const r0 1/jump 3/block/const r0 2/jump 3/block/print r0/halt", "2 done")
	for n, want := range map[string]string{"0": "8", "1": "7", "-1": "7", "5": "7", least: "7", most: "7", "4294967296": "7"} {
		testThread(t, "const r0 "+n+"/branch r0 1 2/block/const r1 7/jump 3/block/const r1 8/jump 3/block/print r1/halt", want+" done")
		testThread(t, "begin/const r0 "+n+"/branch r0 2 1/block/const r1 8/jump 3/block/const r1 7/jump 3/block/print r1/end/halt", want+" done")
	}
	testThread(t, "branch r0 1 1/block/print r1/halt", "0 done")
	testThread(t, "const r1 3/const r2 1/jump 1/block/print r1/calc sub r1 r1 r2/branch r1 1 2/block/print r2/halt", "3 2 1 1 done")
	testThread(t, "begin/const r1 3/const r2 1/jump 1/block/print r1/calc sub r1 r1 r2/branch r1 1 2/block/end/halt", "3 2 1 done")
	// A block of the language may lie in several blocks of the graph, and one of these may have several of the language's.
	testThread(t, "const r1 5/begin/jump 1/block/print r1/end/print r1/begin/print r1/branch r0 1 2/block/end/jump 3/block/print r1/halt", "5 5 5 5 done")
}
