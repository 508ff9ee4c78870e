package live_test

import "testing"

// TestSavedInOneBlock holds blocks of the language that begin and end in one block of the graph. (P13.3)
func TestSavedInOneBlock(t *testing.T) {
	testSaved(t, read(t, "begin; end; halt"), 0, 0, "-")
	testSaved(t, read(t, "begin; calc add r0 r0 r1; end; halt"), 0, 0, "0")
	testSaved(t, read(t, "begin; calc add r0 r0 r1; calc add r5 r5 r4; calc add r2 r5 r0; end; print r2; halt"), 0, 0, "0 5")
	// Live, and changed behind the InEnd alone; in another block, too.
	testSaved(t, read(t, "begin; print r0; end; const r0 1; halt"), 0, 0, "-")
	testSaved(t, read(t, "begin; print r0; end; jump 1", "const r0 1; jump 0"), 0, 0, "-")
	testSaved(t, read(t, "begin; print r0; end; begin; const r0 1; end; halt"), 0, 0, "-")
	// Live, and changed ahead of the InBegin alone.
	testSaved(t, read(t, "const r0 1; begin; print r0; end; halt"), 0, 1, "-")
	testSaved(t, read(t, "const r0 1; begin; print r0; end; jump 0"), 0, 1, "-")
	testSaved(t, read(t, "begin; calc add r0 r0 r0; end; begin; print r0; end; halt"), 0, 3, "-")
	testSaved(t, read(t, "begin; calc add r0 r0 r0; end; begin; print r0; end; halt"), 0, 0, "0")
	// Changed within, and not live straight behind the InBegin: never asked, or changed ahead of being asked.
	testSaved(t, read(t, "begin; const r0 1; end; halt"), 0, 0, "-")
	testSaved(t, read(t, "begin; const r0 1; print r0; end; print r0; halt"), 0, 0, "-")
	testSaved(t, read(t, "begin; print r1; const r0 1; end; const r1 0; halt"), 0, 0, "-")
	// Asked, and then changed; changed, and asked behind the InEnd on the next round.
	testSaved(t, read(t, "begin; print r0; const r0 1; end; halt"), 0, 0, "0")
	testSaved(t, read(t, "begin; print r0; const r0 1; end; jump 0"), 0, 0, "0")
	testSaved(t, read(t, "print r0; begin; const r0 1; end; jump 0"), 0, 1, "-")
	// References, and each kind that changes one.
	testSaved(t, read(t, "begin; nil r6; nil r7; nil r8; nil r9; new r6 1 0; shared r7 1; move r8 r6; load r9 r6 - 0; end; halt"), 0, 0, "6 7 8 9")
	testSaved(t, read(t, "begin; nil r9; print r0; print r1; print r2; ownload r9 r9 - 0; ownload r0 r9 r1 0; const r1 5; calc eq r2 r9 r9; end; halt"), 0, 0, "0 1 2 9")
	// Such as change none.
	testSaved(t, read(t, "begin; nil r6; index r0 4; store r0 r6 r1 2; ownstore r6 r6 - 1; print r2; end; halt"), 0, 0, "-")
	// Each InBegin has its own.
	g := read(t, "begin; calc add r0 r0 r1; end; begin; calc add r1 r1 r0; end; begin; print r0; print r1; end; halt")
	testSaved(t, g, 0, 0, "0")
	testSaved(t, g, 0, 3, "1")
	testSaved(t, g, 0, 6, "-")
}

// TestSavedOnSeveralWays holds what is changed, or asked, on one of several ways within alone, and in blocks that lie within. (P13.3)
func TestSavedOnSeveralWays(t *testing.T) {
	testSaved(t, read(t, "begin; jump 1", "jump 2", "print r0; const r0 1; jump 3", "end; halt"), 0, 0, "0")
	testSaved(t, read(t, "begin; branch r0 1 2", "const r1 1; jump 3", "jump 3", "end; print r1; halt"), 0, 0, "1")
	testSaved(t, read(t, "begin; branch r0 2 1", "const r1 1; jump 3", "jump 3", "end; print r1; halt"), 0, 0, "1")
	// On both, so it is not live.
	testSaved(t, read(t, "begin; branch r0 1 2", "const r1 1; jump 3", "const r1 2; jump 3", "end; print r1; halt"), 0, 0, "-")
	// Asked on the one way, changed on the other.
	testSaved(t, read(t, "begin; branch r0 1 2", "print r1; jump 3", "const r1 2; jump 3", "end; halt"), 0, 0, "1")
	// Changed on a way that has come to its InEnd, not on the one that goes on within.
	testSaved(t, read(t, "begin; branch r0 1 2", "end; const r1 1; const r0 1; halt", "print r1; end; halt"), 0, 0, "-")
	testSaved(t, read(t, "begin; branch r0 1 2", "end; const r1 1; jump 3", "const r2 5; end; jump 3", "print r1; print r2; const r2 2; halt"), 0, 0, "2")
	// Each of the ends of its own.
	testSaved(t, read(t, "begin; branch r0 1 2", "calc add r1 r1 r0; end; halt", "calc add r2 r2 r0; end; halt"), 0, 0, "1 2")
	testSaved(t, read(t, "begin; branch r0 1 1", "calc add r1 r1 r0; end; halt"), 0, 0, "1")
	// A block behind the InEnd that begins another one.
	testSaved(t, read(t, "begin; print r0; print r1; jump 1", "end; begin; const r0 2; const r1 3; jump 2", "end; halt"), 0, 0, "-")
	g := read(t, "begin; calc add r0 r0 r0; jump 1", "calc add r1 r1 r1; end; calc add r2 r2 r2; begin; calc add r3 r3 r3; jump 2", "calc add r4 r4 r4; end; calc add r5 r5 r5; print r0; halt")
	testSaved(t, g, 0, 0, "0 1")
	testSaved(t, g, 1, 3, "3 4")
}

// TestSavedInLoops holds loops within a block of the language, and around it. (P13.3)
func TestSavedInLoops(t *testing.T) {
	// i = i + r1 while i < r2, and then i is told.
	g := read(t, "begin; jump 1", "calc lt r3 r0 r2; branch r3 2 3", "calc add r0 r0 r1; jump 1", "end; print r0; halt")
	testSaved(t, g, 0, 0, "0")
	// The loop's own i is set ahead of it.
	g = read(t, "begin; const r0 0; jump 1", "calc lt r3 r0 r2; branch r3 2 3", "calc add r0 r0 r1; jump 1", "end; print r0; halt")
	testSaved(t, g, 0, 0, "-")
	// Asked ahead of the loop alone, changed in it.
	testSaved(t, read(t, "begin; print r4; jump 1", "const r4 1; branch r0 1 2", "end; halt"), 0, 0, "4")
	// A loop within a loop.
	g = read(t, "begin; jump 1", "branch r0 2 5", "print r1; jump 3", "branch r2 4 1", "const r1 1; const r2 0; const r5 1; jump 3", "end; print r5; jump 0")
	testSaved(t, g, 0, 0, "1 2 5")
	// A loop that is never left: what is changed in it is changed on a way on from there, too.
	testSaved(t, read(t, "begin; print r0; jump 1", "const r0 1; jump 1"), 0, 0, "0")
	testSaved(t, read(t, "begin; branch r1 1 2", "const r0 1; jump 1", "end; print r0; halt"), 0, 0, "0")
	// Blocks of the language in a loop: what the next round changes is behind the InEnd.
	g = read(t, "print r0; jump 1", "const r0 1; begin; print r0; print r1; jump 2", "print r2; const r2 2; end; const r1 5; branch r3 0 3", "halt")
	testSaved(t, g, 1, 1, "2")
	// The block that begins again is in its own loop, inside: what stands ahead of the InBegin is met behind it.
	g = read(t, "begin; jump 1", "calc add r0 r0 r1; end; print r2; begin; const r3 5; jump 1")
	testSaved(t, g, 1, 3, "0")
	testSaved(t, g, 0, 0, "0")
	g = read(t, "begin; jump 1", "print r3; const r0 5; end; begin; print r0; jump 1")
	testSaved(t, g, 1, 3, "0")
	testSaved(t, g, 0, 0, "-")
	// Back to block 0, which begins it.
	testSaved(t, read(t, "print r2; const r2 1; begin; branch r0 1 2", "calc add r1 r1 r2; end; jump 0", "calc add r0 r0 r2; end; jump 0"), 0, 2, "0 1")
}
