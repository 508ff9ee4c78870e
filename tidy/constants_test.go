package tidy_test

import (
	"fmt"
	"slices"
	"strings"
	"testing"
)

// TestBranchesByConstants holds that a branch by a register that became a constant in the same block, and nothing else behind, is none; and one by another register stays. (P14.4)
func TestBranchesByConstants(t *testing.T) {
	ways := " | print r1; halt | print r2; halt"
	for _, n := range numbers() {
		want := "print r1; halt"
		if n == 0 {
			want = "print r2; halt"
		}
		constant := fmt.Sprintf("const r0 %d", n)
		for _, ahead := range []string{"", "print r3; ", "begin; end; ", "index r3 4; ", "begin; new r4 1 0; shared r5 2; store r4 r5 - 0; "} {
			text, last := ahead+constant+"; branch r0 1 2"+ways, ahead+want
			if strings.Count(ahead, "begin") > strings.Count(ahead, "end") {
				text = ahead + constant + "; end; branch r0 1 2" + ways
				last = ahead + "end; " + want
			}
			testTidy(t, text, last)
		}
		testTidy(t, "print r0; "+constant+"; print r0; branch r0 1 2"+ways, "print r0; "+constant+"; print r0; "+want)
		testTidy(t, "const r0 7; const r0 0; "+constant+"; branch r0 1 2"+ways, want)
		testTidy(t, constant+"; move r3 r0; branch r3 1 2"+ways, want)
		testTidy(t, constant+"; const r3 0; calc ne r3 r0 r3; branch r3 1 2"+ways, want)
		// What it became is not there any more, or another register's.
		testSelf(t, constant+"; print r0; index r0 4; move r0 r3; branch r0 1 2"+ways)
		testSelf(t, constant+"; print r0; calc add r0 r0 r3; branch r0 1 2"+ways)
		testSelf(t, "begin; "+constant+"; print r0; shared r4 1; load r0 r4 - 0; end; branch r0 1 2"+ways)
		testSelf(t, constant+"; print r0; branch r3 1 2"+ways)
	}
}

// TestBranchesByConstantsInLoops holds the same where both ways, or one, lead back. (P14.4)
func TestBranchesByConstantsInLoops(t *testing.T) {
	for _, row := range [][2]string{
		{"print r0; const r0 1; branch r0 0 1 | halt", "print r0; const r0 1; jump 0"},
		{"print r0; const r0 0; branch r0 0 1 | halt", "print r0; halt"},
		{"const r0 1; branch r0 0 1 | halt", "jump 0"},
		{"jump 1 | const r0 0; branch r0 1 2 | print r0; halt", "const r0 0; print r0; halt"},
		{"const r0 1; jump 1 | print r0; branch r0 2 1 | const r0 0; jump 1", "const r0 1; jump 1 | print r0; branch r0 2 1 | const r0 0; jump 1"},
		{"const r0 1; jump 1 | print r1; branch r1 1 2 | branch r0 3 4 | print r2; halt | print r3; halt", ""},
	} {
		if row[1] != "" {
			testTidy(t, row[0], row[1])
		}
		testAll(t, read(t, row[0]))
	}
}

// TestConstantsFromOtherBlocks holds what is known where ways meet: what all that come there know alike. (P14.3, P14.4)
func TestConstantsFromOtherBlocks(t *testing.T) {
	for _, row := range [][2]string{
		{"const r0 1; branch r1 1 2 | print r1; jump 3 | print r2; jump 3 | branch r0 4 5 | print r3; halt | halt", "branch r1 1 2 | print r1; jump 3 | print r2; jump 3 | print r3; halt"},
		{"branch r1 1 2 | const r0 1; print r1; jump 3 | const r0 1; print r2; jump 3 | branch r0 4 5 | print r3; halt | halt", "branch r1 1 2 | print r1; jump 3 | print r2; jump 3 | print r3; halt"},
		{"branch r1 1 2 | const r0 1; print r1; jump 3 | const r0 2; print r2; jump 3 | print r0; halt", "branch r1 1 2 | const r0 1; print r1; jump 3 | const r0 2; print r2; jump 3 | print r0; halt"},
		{"const r0 1; branch r1 1 2 | print r1; jump 2 | branch r0 3 4 | print r3; halt | halt", "branch r1 1 2 | print r1; jump 2 | print r3; halt"},
		{"const r0 1; branch r1 1 2 | const r0 0; print r1; jump 2 | branch r0 3 4 | print r3; halt | print r2; halt", "const r0 1; branch r1 1 2 | const r0 0; print r1; jump 2 | branch r0 3 4 | print r3; halt | print r2; halt"},
		{"const r0 1; branch r1 1 2 | move r0 r2; print r1; jump 2 | branch r0 3 4 | print r3; halt | print r2; halt", "const r0 1; branch r1 1 2 | move r0 r2; print r1; jump 2 | branch r0 3 4 | print r3; halt | print r2; halt"},
		// A way that is none any more brings nothing.
		{"const r0 1; branch r0 2 1 | const r0 0; jump 2 | branch r0 3 4 | print r3; halt | print r2; halt", "print r3; halt"},
		{"const r0 1; const r1 0; branch r1 1 2 | const r0 0; branch r2 1 2 | branch r0 3 4 | print r3; halt | print r2; halt", "print r3; halt"},
		{"const r0 3; const r1 4; branch r2 1 2 | calc add r1 r0 r1; jump 3 | const r1 7; jump 3 | print r1; halt", ""},
	} {
		if row[1] != "" {
			testTidy(t, row[0], row[1])
		}
		testAll(t, read(t, row[0]))
	}
}

// TestWaysComeToLate holds what is known where a way comes that only a loop from further on leads to, when the one that led there ahead of it is none any more. (P14.3)
func TestWaysComeToLate(t *testing.T) {
	testTidy(t, "const r0 1; const r1 1; branch r0 2 1 | const r1 2; jump 2 | calc add r2 r1 r1; print r2; branch r3 1 3 | halt",
		"const r1 1; jump 1 | calc add r2 r1 r1; print r2; branch r3 2 3 | const r1 2; jump 1 | halt")
	// The way is gone: the word 1 is 1 at first, then 0.
	const set, get = "begin; shared r4 1; const r3 1; store r3 r4 - 0; end; ", "begin; shared r4 1; load r3 r4 - 0; const r2 0; store r2 r4 - 0; end; "
	c := read(t, set+"const r0 1; const r1 1; branch r0 2 1 | const r1 2; jump 2 | calc add r2 r1 r1; print r2; "+get+"branch r3 1 3 | halt")
	testAll(t, c)
	if w := run(t, tidied(t, c), picked(0, 9), plenty); !slices.Equal(w.Seen[0].Out, []int64{2, 4}) {
		t.Errorf("%s tells %v", tellAll(c), w)
	}
}

// TestConstantsAskedAgain holds that a constant goes which no way asks ahead of its being written, and that one stays which some way asks. (P14.4)
func TestConstantsAskedAgain(t *testing.T) {
	for _, row := range [][2]string{
		// On no way.
		{"const r0 1; halt", "halt"},
		{"print r0; const r0 1; halt", "print r0; halt"},
		{"print r0; const r0 1; branch r1 1 2 | print r1; halt | halt", "print r0; branch r1 1 2 | print r1; halt | halt"},
		{"const r0 1; jump 1 | print r1; jump 1", "print r1; jump 0"},
		// Ahead of being written again, on each way.
		{"const r0 1; const r0 2; print r0; halt", "const r0 2; print r0; halt"},
		{"const r0 1; branch r1 1 2 | const r0 2; print r0; halt | const r0 3; print r0; halt", "branch r1 1 2 | const r0 2; print r0; halt | const r0 3; print r0; halt"},
		{"const r0 1; branch r1 1 2 | const r0 2; print r0; halt | halt", "branch r1 1 2 | const r0 2; print r0; halt | halt"},
		{"begin; const r0 1; shared r4 1; load r0 r4 - 0; print r0; end; halt", "begin; shared r4 1; load r0 r4 - 0; print r0; end; halt"},
		{"begin; const r4 0; new r4 1 0; store r4 r4 - 0; end; halt", "begin; new r4 1 0; store r4 r4 - 0; end; halt"},
		{"begin; const r4 0; shared r4 1; store r4 r4 - 0; end; halt", "begin; shared r4 1; store r4 r4 - 0; end; halt"},
		{"begin; shared r5 1; const r4 0; ownload r4 r5 - 0; nil r4; end; halt", "begin; shared r5 1; ownload r4 r5 - 0; nil r4; end; halt"},
		// On one way alone.
		{"const r0 1; branch r1 1 2 | print r0; halt | halt", "const r0 1; branch r1 1 2 | print r0; halt | halt"},
		{"const r0 1; branch r1 1 2 | halt | print r0; halt", "const r0 1; branch r1 1 2 | halt | print r0; halt"},
		{"const r0 1; branch r1 1 2 | const r0 2; jump 2 | print r0; halt", "const r0 1; branch r1 1 2 | const r0 2; jump 2 | print r0; halt"},
		// By way of a loop.
		{"print r0; const r0 1; jump 0", "print r0; const r0 1; jump 0"},
		{"branch r1 1 2 | print r0; jump 2 | const r0 1; jump 0", "branch r1 1 2 | print r0; jump 2 | const r0 1; jump 0"},
		{"const r0 1; jump 1 | print r1; branch r1 1 2 | print r0; jump 1", "const r0 1; jump 1 | print r1; branch r1 1 2 | print r0; jump 1"},
		// By what ends a block alone, and by each kind of instruction.
		{"print r0; const r0 1; jump 1 | branch r0 2 1 | halt", "print r0; const r0 1; jump 1 | branch r0 2 1 | halt"},
		{"const r0 1; calc div r1 r2 r0; halt", "const r0 1; calc div r1 r2 r0; halt"},
		{"const r4 0; calc eq r1 r4 r5; print r1; halt", "const r4 0; calc eq r1 r4 r5; print r1; halt"},
		// What was asked for a branch that is none any more.
		{"const r0 1; print r1; branch r0 1 1 | halt", "print r1; halt"},
		{"const r0 1; print r1; jump 1 | branch r0 2 2 | jump 1", "print r1; jump 1 | jump 1"},
	} {
		testTidy(t, row[0], row[1])
	}
}

// TestChains holds chains of what lets go the one ahead of it. (P14.4)
func TestChains(t *testing.T) {
	for _, row := range [][2]string{
		{"const r0 1; move r1 r0; calc add r2 r1 r0; move r3 r2; halt", "halt"},
		{"begin; shared r4 1; move r5 r4; move r6 r5; calc eq r0 r6 r7; calc add r1 r0 r0; end; halt", "begin; end; halt"},
		{"move r1 r0; branch r3 1 2 | move r2 r1; print r3; jump 2 | calc add r0 r2 r1; halt", "branch r3 1 2 | print r3; jump 2 | halt"},
		{"print r3; branch r3 1 2 | calc add r1 r0 r0; jump 2 | calc add r2 r1 r1; halt", "print r3; halt"},
		// What goes round a loop for itself alone.
		{"jump 1 | const r1 1; calc add r0 r0 r1; branch r3 1 2 | halt", "branch r3 0 1 | halt"},
		{"jump 1 | move r0 r1; move r1 r2; move r2 r0; branch r3 1 2 | halt", "branch r3 0 1 | halt"},
		{"const r0 0; jump 1 | const r1 1; calc add r0 r0 r1; jump 1", "jump 0"},
		// What is asked for a branch alone, whose ways then are one.
		{"const r0 5; calc lt r1 r0 r2; branch r1 1 2 | const r3 1; jump 3 | const r3 2; jump 3 | halt", "halt"},
		{"calc lt r1 r0 r2; branch r1 1 2 | calc lt r3 r2 r0; branch r3 3 4 | jump 4 | const r3 2; jump 4 | print r0; halt", "print r0; halt"},
		// A constant that lets go a branch, which lets go a block, which lets another one begin with what is known.
		{"const r0 0; branch r0 1 2 | move r1 r3; jump 3 | const r1 1; jump 3 | branch r1 4 5 | const r2 0; jump 6 | move r2 r3; jump 6 | branch r2 7 8 | print r0; halt | print r1; print r2; halt", "const r1 1; const r2 0; print r1; print r2; halt"},
	} {
		testTidy(t, row[0], row[1])
	}
}

// TestLongChains holds chains through many blocks that don't become one. (P14.4)
func TestLongChains(t *testing.T) {
	for _, many := range []int{1, 2, 7, 100} {
		// Each block asks for the one behind it alone: r0, r1, r2, r0 and so on.
		l := []string{"branch r3 1 1"}
		for n := range many {
			l = append(l, fmt.Sprintf("calc add r%d r%d r%d; branch r3 %d %d", (n+1)%3, n%3, n%3, n+2, many+1))
		}
		testTidy(t, strings.Join(append(l, "halt"), " | "), "halt")
		// Branch within branch, each by what is worked out for it.
		l = nil
		for n := range many {
			l = append(l, fmt.Sprintf("calc lt r1 r0 r2; calc add r2 r1 r0; branch r2 %d %d", n+1, 2*many-n))
		}
		l = append(l, fmt.Sprintf("const r1 1; jump %d", many+1))
		l = append(l, slices.Repeat([]string{"const r1 7; jump 0"}, many)...)
		for n := range many {
			l[many+1+n] = fmt.Sprintf("const r1 7; jump %d", many+2+n)
		}
		testTidy(t, strings.Join(append(l, "halt"), " | "), "halt")
		// Ways that part by one constant, and meet again.
		l = []string{"const r0 1; jump 1"}
		want := []string{"const r0 1"}
		for n := range many {
			l = append(l, fmt.Sprintf("branch r0 %d %d", 3*n+2, 3*n+3), fmt.Sprintf("print r0; jump %d", 3*n+4), fmt.Sprintf("print r1; const r0 0; branch r1 %d %d", 3*n+3, 3*n+4))
			want = append(want, "print r0")
		}
		testTidy(t, strings.Join(append(l, "halt"), " | "), strings.Join(append(want, "halt"), "; "))
	}
}
