package tidy_test

import (
	"strings"
	"testing"

	"turnstile/api"
)

// some is an instruction that stays, whatever stands beside it.
const some = "print r0"

// TestRows holds that blocks in a row become one. (P14.2, P14.3)
func TestRows(t *testing.T) {
	for _, row := range [][2]string{
		{"halt", "halt"},
		{"jump 1 | halt", "halt"},
		{"jump 1 | jump 2 | jump 3 | halt", "halt"},
		{"print r0; jump 1 | print r1; halt", "print r0; print r1; halt"},
		{"print r0; jump 2 | print r2; halt | print r1; jump 1", "print r0; print r1; print r2; halt"},
		{"begin; jump 1 | print r0; jump 2 | end; jump 3 | begin; end; halt", "begin; print r0; end; begin; end; halt"},
		{"print r0; jump 1 | print r1; branch r0 2 3 | print r2; halt | print r3; halt", "print r0; print r1; branch r0 1 2 | print r2; halt | print r3; halt"},
		{"print r0; branch r0 1 2 | print r1; jump 3 | print r2; jump 4 | print r3; halt | print r0; halt", "print r0; branch r0 1 2 | print r1; print r3; halt | print r2; print r0; halt"},
	} {
		testTidy(t, row[0], row[1])
	}
}

// TestBranches holds what becomes of ways that part and meet again. (P14.2, P14.4)
func TestBranches(t *testing.T) {
	for _, row := range [][2]string{
		{"branch r0 1 1 | halt", "halt"},
		{"print r0; branch r0 1 1 | print r1; halt", "print r0; print r1; halt"},
		{"branch r0 1 2 | jump 3 | jump 3 | halt", "halt"},
		{"branch r0 1 2 | jump 2 | print r1; halt", "print r1; halt"},
		{"branch r0 1 2 | jump 4 | jump 3 | jump 4 | print r1; halt", "print r1; halt"},
		{"branch r0 1 2 | branch r1 3 4 | jump 5 | jump 5 | jump 3 | print r2; halt", "print r2; halt"},
		{"branch r0 1 2 | print r1; jump 3 | jump 3 | halt", "branch r0 1 2 | print r1; jump 2 | halt"},
		{"branch r0 1 2 | jump 3 | print r1; jump 3 | halt", "branch r0 2 1 | print r1; jump 2 | halt"},
		{"branch r0 1 2 | print r1; jump 3 | print r2; jump 3 | print r3; halt", "branch r0 1 2 | print r1; jump 3 | print r2; jump 3 | print r3; halt"},
		{"branch r0 1 2 | halt | halt", "branch r0 1 2 | halt | halt"},
		{"begin; branch r0 1 2 | print r1; jump 3 | jump 3 | end; halt", "begin; branch r0 1 2 | print r1; jump 2 | end; halt"},
	} {
		testTidy(t, row[0], row[1])
	}
}

// TestLoops holds what becomes of loops, within one another too, and of those that lead back to block 0. (P14.2, P14.3)
func TestLoops(t *testing.T) {
	for _, row := range [][2]string{
		{"jump 1 | jump 0", "jump 0"},
		{"jump 1 | jump 2 | jump 1", "jump 0"},
		{"jump 1 | jump 1", "jump 0"},
		{"branch r0 1 2 | jump 2 | jump 1", "jump 0"},
		{"branch r0 1 2 | jump 2 | jump 3 | jump 1", "jump 0"},
		{"print r0; jump 1 | jump 2 | jump 3 | jump 1", "print r0; jump 1 | jump 1"},
		{"print r0; jump 0", "print r0; jump 0"},
		{"jump 1 | print r0; jump 0", "print r0; jump 0"},
		{"print r0; jump 1 | jump 0", "print r0; jump 0"},
		{"print r0; jump 1 | print r1; jump 0", "print r0; print r1; jump 0"},
		{"branch r0 0 1 | halt", "branch r0 0 1 | halt"},
		{"jump 1 | branch r0 0 2 | halt", "branch r0 0 1 | halt"},
		{"branch r0 1 0 | jump 0", "jump 0"},
		{"print r0; branch r0 0 0", "print r0; jump 0"},
		{"print r0; jump 1 | branch r0 1 2 | halt", "print r0; jump 1 | branch r0 1 2 | halt"},
		{"print r0; jump 1 | branch r0 2 3 | jump 1 | halt", "print r0; jump 1 | branch r0 1 2 | halt"},
		{"jump 1 | branch r0 2 4 | branch r1 3 1 | print r2; jump 2 | halt", "branch r0 1 3 | branch r1 2 0 | print r2; jump 1 | halt"},
		{"jump 1 | branch r0 2 5 | jump 3 | branch r1 4 1 | jump 3 | halt", "branch r0 1 2 | branch r1 1 0 | halt"},
		{"begin; jump 1 | load r1 r4 - 0; branch r1 1 2 | end; jump 0", "begin; jump 1 | load r1 r4 - 0; branch r1 1 2 | end; jump 0"},
		// A loop into which two ways lead.
		{"branch r0 1 2 | print r1; jump 2 | print r2; jump 1", "branch r0 2 1 | print r2; jump 2 | print r1; jump 1"},
	} {
		testTidy(t, row[0], row[1])
	}
}

// TestNotReached holds that blocks which are not reached go, whatever stands in them and wherever they lead. (P14.2)
func TestNotReached(t *testing.T) {
	for _, row := range [][2]string{
		{"halt | halt", "halt"},
		{"halt | jump 0", "halt"},
		{"print r0; halt | print r1; jump 2 | print r2; jump 1", "print r0; halt"},
		{"print r0; halt | end; begin; begin; new r4 1 0; jump 0", "print r0; halt"},
		{"begin; jump 2 | print r1; jump 2 | end; halt | begin; store r0 r4 r1 3; halt", "begin; end; halt"},
		{"jump 3 | print r1; jump 3 | branch r0 1 3 | print r2; halt", "print r2; halt"},
		// Those to which a branch led that is none any more.
		{"const r0 1; branch r0 1 2 | halt | print r1; branch r1 2 3 | jump 1", "halt"},
		{"const r0 0; branch r0 1 2 | print r1; jump 1 | print r2; halt", "print r2; halt"},
		{"const r0 0; branch r0 1 2 | print r1; branch r1 1 2 | print r2; halt", "print r2; halt"},
	} {
		testTidy(t, row[0], row[1])
	}
}

// TestThreads holds that each thread becomes what it becomes alone, and that blocks and instructions are counted thread by thread. (P14.1, P14.2)
func TestThreads(t *testing.T) {
	texts := []string{
		"print r0; halt", "const r0 1; branch r0 1 2 | print r0; halt | halt", "jump 1 | jump 0", "begin; shared r4 1; load r0 r4 - 0; const r1 2; const r2 3; calc add r1 r1 r2; calc add r0 r0 r1; store r0 r4 - 0; print r0; end; jump 0",
	}
	var alone []string
	for _, s := range texts {
		alone = append(alone, tell(tidied(t, read(t, s)).Threads[0]))
	}
	for from := range texts {
		for to := from; to <= len(texts); to++ {
			c := read(t, texts[from:to]...)
			testAll(t, c)
			if got, want := tellAll(tidied(t, c)), strings.Join(append([]string{"words 7"}, alone[from:to]...), "\n"); got != want {
				t.Errorf("%s, not %s", got, want)
			}
		}
	}
}

// TestRegistersStay holds that registers, sites and words stay, though fewer of them are asked. (P14.2)
func TestRegistersStay(t *testing.T) {
	for _, sites := range []int{0, 1, 9, api.MaxIns} {
		for _, refs := range [][]bool{nil, {true}, {false}, {false, true, true, false}, make([]bool, api.MaxRegs)} {
			c := api.Code{Words: sites, Threads: []api.Graph{{Refs: refs, Sites: sites, Blocks: []api.Block{{Last: api.LaJump, Yes: 1}, {Last: api.LaHalt}}}}}
			testAll(t, c)
		}
	}
	c := read(t, "begin; new r4 2 3; const r4 0; end; halt", "halt")
	testAll(t, c)
}
