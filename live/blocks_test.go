package live_test

import "testing"

// TestOneBlock holds what is live within one block. (P13.1, P13.2)
func TestOneBlock(t *testing.T) {
	g := read(t, "halt")
	testIn(t, g, "-")
	testAt(t, g, 0, "-")
	g = read(t, "print r3; const r2 7; print r2; print r1; print r3; halt")
	testIn(t, g, "1 3")
	testAt(t, g, 0, "1 3; 1 3; 1 2 3; 1 3; 3; -")
	// What is changed twice, and what is changed alone.
	g = read(t, "const r0 1; const r0 2; const r1 3; print r0; const r0 4; halt")
	testAt(t, g, 0, "-; -; 0; 0; -; -")
	g = read(t, "move r1 r0; move r2 r1; move r0 r2; print r0; halt")
	testAt(t, g, 0, "0; 1; 2; 0; -")
}

// TestRows holds blocks in a row, in the order of their numbers and in others. (P13.1, P13.2)
func TestRows(t *testing.T) {
	testIn(t, read(t, "jump 1", "jump 2", "halt"), "-; -; -")
	g := read(t, "const r0 1; jump 1", "const r1 2; jump 2", "print r0; print r1; print r2; halt")
	testIn(t, g, "2; 0 2; 0 1 2")
	testAt(t, g, 0, "2; 0 2")
	testAt(t, g, 1, "0 2; 0 1 2")
	testAt(t, g, 2, "0 1 2; 1 2; 2; -")
	g = read(t, "jump 3", "print r1; halt", "print r2; const r1 0; jump 1", "print r3; jump 2")
	testIn(t, g, "2 3; 1; 2; 2 3")
	testIn(t, read(t, "print r0; jump 1", "print r1; jump 2", "print r2; jump 3", "print r3; halt"), "0 1 2 3; 1 2 3; 2 3; 3")
	testIn(t, read(t, "const r3 0; jump 1", "const r2 0; jump 2", "const r1 0; jump 3", "calc add r0 r1 r2; calc add r0 r0 r3; print r0; halt"), "-; 3; 2 3; 1 2 3")
}

// TestBranches holds ways that part and meet again, and registers that are asked, or changed, on one of them alone. (P13.1, P13.2)
func TestBranches(t *testing.T) {
	g := read(t, "branch r0 1 2", "print r1; jump 3", "print r2; jump 3", "print r3; halt")
	testIn(t, g, "0 1 2 3; 1 3; 2 3; 3")
	testAt(t, g, 0, "0 1 2 3")
	testAt(t, g, 1, "1 3; 3")
	// Asked on the one way, on the other one changed, or neither.
	testIn(t, read(t, "branch r0 1 2", "print r1; halt", "const r1 5; halt"), "0 1; 1; -")
	testIn(t, read(t, "branch r0 2 1", "print r1; halt", "const r1 5; halt"), "0 1; 1; -")
	testIn(t, read(t, "branch r0 1 2", "print r1; halt", "halt"), "0 1; 1; -")
	testIn(t, read(t, "branch r0 2 1", "print r1; halt", "halt"), "0 1; 1; -")
	// Asked where they meet; changed on one of the ways ahead of that, on both.
	testIn(t, read(t, "branch r0 1 2", "const r1 5; jump 3", "jump 3", "print r1; halt"), "0 1; -; 1; 1")
	testIn(t, read(t, "branch r0 1 2", "jump 3", "const r1 5; jump 3", "print r1; halt"), "0 1; 1; -; 1")
	testIn(t, read(t, "branch r0 1 2", "const r1 5; jump 3", "const r1 6; jump 3", "print r1; halt"), "0; -; -; 1")
	testIn(t, read(t, "branch r0 1 2", "const r1 5; jump 2", "print r1; halt"), "0 1; -; 1")
	// The end asks what was changed ahead of it.
	testIn(t, read(t, "const r0 1; branch r0 1 2", "halt", "halt"), "-; -; -")
	testAt(t, read(t, "const r0 1; branch r0 1 2", "halt", "halt"), 0, "-; 0")
	// Branches within branches.
	testIn(t, read(t, "branch r0 1 4", "branch r1 2 3", "print r2; jump 5", "print r3; jump 5", "const r5 0; jump 5", "print r5; halt"), "0 1 2 3 5; 1 2 3 5; 2 5; 3 5; -; 5")
}

// TestBothWaysToOne holds branches whose Yes and No are one block. (P13.1, P13.2)
func TestBothWaysToOne(t *testing.T) {
	testIn(t, read(t, "branch r0 1 1", "halt"), "0; -")
	testIn(t, read(t, "branch r0 1 1", "print r1; halt"), "0 1; 1")
	testIn(t, read(t, "const r1 0; branch r0 1 1", "print r0; print r1; halt"), "0; 0 1")
	testAt(t, read(t, "const r1 0; branch r0 1 1", "print r0; print r1; halt"), 0, "0; 0 1")
	testIn(t, read(t, "branch r0 0 0"), "0")
}

// TestLoops holds loops, loops within loops, such as lead back to block 0, and a block that goes to itself. (P13.1, P13.2)
func TestLoops(t *testing.T) {
	testIn(t, read(t, "jump 0"), "-")
	testIn(t, read(t, "print r0; jump 0"), "0")
	testIn(t, read(t, "print r0; const r0 1; jump 0"), "0")
	testIn(t, read(t, "const r0 1; print r0; jump 0"), "-")
	testAt(t, read(t, "const r1 1; print r0; jump 0"), 0, "0; 0; 0")
	testAt(t, read(t, "print r0; const r0 1; print r1; jump 0"), 0, "0 1; 1; 0 1; 0 1")
	testIn(t, read(t, "print r1; branch r0 0 1", "print r2; halt"), "0 1 2; 2")
	testIn(t, read(t, "print r1; branch r0 1 0", "print r2; halt"), "0 1 2; 2")
	// A while: what is asked in its body, and behind it.
	testIn(t, read(t, "const r0 3; jump 1", "branch r0 2 3", "calc sub r0 r0 r1; jump 1", "print r2; halt"), "1 2; 0 1 2; 0 1 2; 2")
	testIn(t, read(t, "jump 1", "branch r0 2 3", "const r1 1; print r1; jump 1", "halt"), "0; 0; 0; -")
	// Asked on the next round alone, behind what it is changed in.
	testIn(t, read(t, "jump 1", "print r1; jump 2", "const r1 5; branch r0 1 3", "halt"), "0 1; 0 1; 0; -")
	testAt(t, read(t, "jump 1", "print r1; jump 2", "const r1 5; branch r0 1 3", "halt"), 2, "0; 0 1")
	// A loop within a loop; what the inner one asks is live all through the outer one, unless that changes it.
	testIn(t, read(t, "jump 1", "branch r0 2 5", "const r3 0; jump 3", "branch r1 4 1", "print r2; print r3; jump 3", "halt"), "0 1 2; 0 1 2; 0 1 2; 0 1 2 3; 0 1 2 3; -")
	testIn(t, read(t, "branch r0 1 4", "branch r1 2 0", "branch r2 3 1", "print r3; jump 2", "print r4; halt"), "0 1 2 3 4; 0 1 2 3 4; 0 1 2 3 4; 0 1 2 3 4; 4")
	// Back to block 0.
	testIn(t, read(t, "const r1 1; jump 1", "print r1; print r2; jump 2", "const r2 1; branch r3 0 3", "halt"), "2 3; 1 2 3; 3; -")
	testIn(t, read(t, "jump 1", "jump 2", "print r5; jump 0"), "5; 5; 5")
	// Loops that are entered at more than one place.
	testIn(t, read(t, "branch r0 1 2", "print r1; const r2 0; jump 2", "print r2; const r1 0; jump 1"), "0 1 2; 1; 2")
	testIn(t, read(t, "branch r0 1 2", "const r3 1; jump 2", "branch r1 1 3", "print r3; halt"), "0 1 3; 1; 1 3; 3")
}

// TestSeenLate holds a register that comes to each block by a loop that leads back to one that it has come to so. (P13.1)
func TestSeenLate(t *testing.T) {
	testIn(t, read(t, "const r5 0; branch r0 1 7", "print r5; jump 2", "const r5 0; branch r0 3 0", "branch r0 4 1", "const r5 0; branch r0 5 2", "branch r0 6 3", "const r5 0; branch r0 7 4", "branch r0 6 5"),
		"0; 0 5; 0; 0 5; 0; 0 5; 0; 0 5")
	testIn(t, read(t, "branch r0 7 1", "branch r0 1 2", "branch r0 2 3", "branch r0 3 4", "print r5; branch r0 4 4", "jump 0", "jump 5", "const r5 1; branch r0 6 7"),
		"0 5; 0 5; 0 5; 0 5; 0 5; 0 5; 0 5; 0")
}

// TestNotReached holds that blocks which nothing leads to are spoken of as others are, and make those no more live to which they lead. (P13.1 to P13.3)
func TestNotReached(t *testing.T) {
	testIn(t, read(t, "halt", "print r1; halt"), "-; 1")
	testIn(t, read(t, "print r0; halt", "print r1; jump 0"), "0; 0 1")
	testIn(t, read(t, "halt", "print r1; jump 2", "const r2 0; jump 3", "print r2; print r3; jump 1"), "-; 1 3; 1 3; 1 2 3")
	testAt(t, read(t, "halt", "const r1 0; print r1; branch r2 1 0"), 1, "2; 1 2; 2")
	// Whatever side it stands on.
	g := read(t, "halt", "end; load r0 r6 - 0; jump 2", "print r0; begin; begin; const r1 2; jump 3", "const r2 5; end; const r3 1; print r1; print r2; print r3; halt")
	testIn(t, g, "-; 6; 0; 1")
	testSaved(t, g, 2, 1, "-")
	g = read(t, "halt", "begin; const r1 2; calc add r2 r2 r1; branch r3 1 2", "calc add r4 r4 r5; end; const r5 1; print r5; halt")
	testIn(t, g, "-; 2 3 4 5; 4 5")
	testSaved(t, g, 1, 0, "2 4")
}

// TestHighest holds registers up to the highest one that there may be. (P13.1 to P13.3)
func TestHighest(t *testing.T) {
	g := readOf(t, "1024 0", "print r1023; print r63; print r64; const r1023 0; jump 1", "begin; calc add r1022 r1022 r1023; end; print r1022; print r0; halt")
	testIn(t, g, "0 63 64 1022 1023; 0 1022 1023")
	testAt(t, g, 0, "0 63 64 1022 1023; 0 63 64 1022; 0 64 1022; 0 1022; 0 1022 1023")
	testSaved(t, g, 1, 0, "1022")
	g = readOf(t, "1024 0", "begin; const r1023 0; const r0 0; const r512 1; end; print r1023; print r0; halt")
	testSaved(t, g, 0, 0, "-")
	g = readOf(t, "1024 0", "begin; calc add r1023 r1023 r0; end; print r1023; halt")
	testSaved(t, g, 0, 0, "1023")
}
