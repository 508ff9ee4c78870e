package live_test

import (
	"strings"
	"testing"

	"turnstile/api"
)

// deeds are rows of an instruction's line, the registers that it asks, and the one that it changes.
func deeds() [][3]string {
	return [][3]string{
		{"const r1 5", "-", "1"},
		{"const r6 0", "-", "6"},
		{"move r1 r2", "2", "1"},
		{"move r6 r7", "7", "6"},
		{"move r1 r1", "1", "1"},
		{"calc add r0 r1 r2", "1 2", "0"},
		{"calc div r5 r4 r4", "4", "5"},
		{"calc le r3 r3 r1", "1 3", "3"},
		{"calc eq r3 r6 r9", "6 9", "3"},
		{"calc ne r3 r3 r3", "3", "3"},
		{"nil r8", "8", "-"},
		{"index r4 64", "4", "-"},
		{"shared r9 3", "-", "9"},
		{"new r7 4 0", "-", "7"},
		{"new r7 4 3", "-", "7"},
		{"load r0 r6 - 0", "6", "0"},
		{"load r0 r6 r1 2", "1 6", "0"},
		{"load r0 r6 r0 2", "0 6", "0"},
		{"load r6 r6 - 1", "6", "6"},
		{"load r7 r6 r5 0", "5 6", "7"},
		{"ownload r2 r9 - 0", "9", "2"},
		{"ownload r2 r9 r3 64", "3 9", "2"},
		{"ownload r2 r9 r2 1", "2 9", "2"},
		{"ownload r9 r9 - 0", "9", "9"},
		{"store r0 r6 - 0", "0 6", "-"},
		{"store r0 r6 r1 2", "0 1 6", "-"},
		{"store r0 r6 r0 2", "0 6", "-"},
		{"store r6 r6 - 1", "6", "-"},
		{"store r7 r8 r5 0", "5 7 8", "-"},
		{"ownstore r2 r9 - 0", "2 9", "-"},
		{"ownstore r2 r9 r3 64", "2 3 9", "-"},
		{"ownstore r8 r9 - 1", "8 9", "-"},
		{"print r5", "5", "-"},
		{"begin", "-", "-"},
		{"end", "-", "-"},
	}
}

// asksAll is a row of instructions that asks all registers, and changes none.
const asksAll = "print r0; print r1; print r2; print r3; print r4; print r5; nil r6; nil r7; nil r8; nil r9"

// TestDeeds holds what each kind of instruction asks and changes: where nothing is live behind it, and where all is. (P13.1, P13.2)
func TestDeeds(t *testing.T) {
	met := map[api.InsKind]bool{}
	for _, row := range deeds() {
		line, asks, changes := row[0], row[1], row[2]
		// In a block that is not reached, so it stands on no wrong side.
		g := read(t, "halt", line+"; halt")
		met[g.Blocks[1].Ins[0].Kind] = true
		testAt(t, g, 1, asks+"; -")
		var all []string
		for r := range strings.FieldsSeq("0 1 2 3 4 5 6 7 8 9") {
			if r != changes || strings.Contains(" "+asks+" ", " "+r+" ") {
				all = append(all, r)
			}
		}
		testIn(t, read(t, "halt", line+"; "+asksAll+"; halt"), "-; "+strings.Join(all, " "))
	}
	if len(met) != int(api.InEnd) {
		t.Errorf("%d kinds of instructions", len(met))
	}
}

// TestDeedsWithin holds them where they are reached, inside of a block of the language: with a jump between. (P13.1, P13.2)
func TestDeedsWithin(t *testing.T) {
	for _, row := range deeds() {
		line, asks, changes := row[0], row[1], row[2]
		if line == "begin" || line == "end" {
			continue
		}
		g := read(t, "begin; jump 1", line+"; jump 2", "end; halt")
		testIn(t, g, asks+"; "+asks+"; -")
		if changes != "-" && strings.Contains(" "+asks+" ", " "+changes+" ") {
			testSaved(t, g, 0, 0, changes)
			continue
		}
		testSaved(t, g, 0, 0, "-")
		if changes == "-" {
			continue
		}
		// What it changes is asked behind.
		ask := "print r"
		if changes >= "6" {
			ask = "nil r"
		}
		g = read(t, "begin; jump 1", line+"; jump 2", ask+changes+"; end; halt")
		testIn(t, g, asks+"; "+asks+"; "+changes)
	}
}

// TestEnds holds what each kind of end asks: a branch its register, and no other one what stands there as 0. (P13.1, P13.2)
func TestEnds(t *testing.T) {
	g := read(t, "halt", "jump 0", "branch r0 0 0", "branch r5 0 1", "jump 3", "branch r4 2 3")
	testIn(t, g, "-; -; 0; 5; 5; 0 4 5")
	for n := range g.Blocks {
		testAt(t, g, n, numbers(in(t, g)[n]))
	}
	// A branch asks behind all that stands in its block.
	g = read(t, "print r1; const r1 0; branch r1 1 1", "print r1; const r2 0; branch r2 2 2", "const r1 2; print r2; halt")
	testAt(t, g, 0, "1; -; 1")
	testAt(t, g, 1, "1; -; 2")
	testAt(t, g, 2, "2; 2; -")
}
