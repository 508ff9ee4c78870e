package tidy_test

import (
	"fmt"
	"math"
	"testing"

	"turnstile/api"
	"turnstile/word"
)

// numbers are some of all sorts, for operations.
func numbers() []int64 {
	return []int64{0, 1, 2, 3, 5, 7, 31, 32, 63, 64, 65, 127, 128, 1000, -1, -2, -3, -63, -64, -65, math.MaxInt64, math.MaxInt64 - 1, math.MinInt64, math.MinInt64 + 1, 1 << 32, 0x5555555555555555}
}

func operations() []string {
	return []string{"add", "sub", "mul", "div", "mod", "and", "or", "xor", "shl", "shr", "eq", "ne", "lt", "le"}
}

// TestOperations holds that an operation on two constants is one, wrapped round as word says; but what ends the thread, which stays. (P14.3)
func TestOperations(t *testing.T) {
	for k, name := range operations() {
		for _, a := range numbers() {
			for _, b := range numbers() {
				text := fmt.Sprintf("const r0 %d; const r1 %d; calc %s r2 r0 r1; print r2; halt", a, b, name)
				want := text
				if n, e := word.Do(api.CalcAdd+api.Calc(k), a, b); e == api.OK {
					want = fmt.Sprintf("const r2 %d; print r2; halt", n)
				}
				testTidy(t, text, want)
			}
		}
	}
}

// TestOneRegister holds operations whose registers are the same ones. (P14.3)
func TestOneRegister(t *testing.T) {
	for _, row := range [][2]string{
		{"const r0 3; calc mul r0 r0 r0; print r0; halt", "const r0 9; print r0; halt"},
		{"const r0 3; const r1 4; calc sub r0 r1 r0; calc sub r1 r0 r1; print r0; print r1; halt", "const r0 1; const r1 -3; print r0; print r1; halt"},
		{"const r0 3; calc add r1 r0 r0; print r0; print r1; halt", "const r0 3; const r1 6; print r0; print r1; halt"},
		{"const r0 9223372036854775807; calc add r0 r0 r0; print r0; halt", "const r0 -2; print r0; halt"},
		{"const r0 0; calc div r0 r0 r0; print r0; halt", "const r0 0; calc div r0 r0 r0; print r0; halt"},
		{"const r0 7; calc mod r0 r0 r0; print r0; halt", "const r0 0; print r0; halt"},
	} {
		testTidy(t, row[0], row[1])
	}
}

// TestMoves holds that what is moved is known, too, references among it. (P14.3)
func TestMoves(t *testing.T) {
	for _, row := range [][2]string{
		{"const r0 5; move r1 r0; move r2 r1; print r2; halt", "const r2 5; print r2; halt"},
		{"move r0 r0; print r0; halt", "print r0; halt"},
		{"const r0 5; move r0 r0; print r0; halt", "const r0 5; print r0; halt"},
		{"move r4 r4; nil r4; halt", "nil r4; halt"},
		{"const r4 0; move r5 r4; nil r5; halt", "const r5 0; nil r5; halt"},
		{"shared r4 3; move r5 r4; nil r5; halt", "shared r5 3; nil r5; halt"},
		{"const r4 0; shared r5 1; calc eq r0 r4 r5; print r0; halt", "const r0 0; print r0; halt"},
		{"shared r4 2; shared r5 2; calc eq r0 r4 r5; calc ne r1 r4 r5; print r0; print r1; halt", "const r0 1; const r1 0; print r0; print r1; halt"},
		{"shared r4 2; shared r5 3; calc ne r0 r4 r5; branch r0 1 2 | print r1; halt | print r2; halt", "print r1; halt"},
		{"const r4 0; move r5 r4; calc eq r0 r4 r5; branch r0 1 2 | print r1; halt | print r2; halt", "print r1; halt"},
		{"const r0 5; move r1 r0; move r0 r2; print r0; print r1; halt", "const r1 5; move r0 r2; print r0; print r1; halt"},
		{"move r1 r0; const r0 5; print r0; print r1; halt", "move r1 r0; const r0 5; print r0; print r1; halt"},
	} {
		testTidy(t, row[0], row[1])
	}
}

// TestWhatIsNotKnown holds that nothing is known of what is loaded, of what was made, and of what one does not know all of. (P14.3)
func TestWhatIsNotKnown(t *testing.T) {
	for _, text := range []string{
		"begin; const r0 5; shared r4 1; load r0 r4 r0 0; end; branch r0 1 2 | print r0; halt | print r1; halt",
		"begin; const r0 5; shared r4 1; ownload r0 r4 r0 0; end; branch r0 1 2 | print r0; halt | print r1; halt",
		"begin; const r5 0; new r4 1 0; calc eq r0 r4 r5; print r0; end; halt",
		"begin; shared r4 1; load r4 r4 - 0; shared r5 1; calc eq r0 r4 r5; print r0; end; halt",
		"const r0 5; calc add r1 r0 r2; branch r1 1 2 | print r0; halt | print r1; halt",
		"const r0 5; calc add r1 r2 r0; branch r1 1 2 | print r0; halt | print r1; halt",
		"calc add r1 r2 r3; branch r1 1 2 | print r0; halt | print r1; halt",
		"move r1 r0; branch r1 1 2 | print r0; halt | print r1; halt",
		"branch r0 1 2 | print r0; halt | print r1; halt",
	} {
		testSelf(t, text)
	}
	testTidy(t, "begin; shared r4 1; const r4 0; new r4 1 0; const r5 0; calc eq r0 r4 r5; print r0; end; halt", "begin; new r4 1 0; const r5 0; calc eq r0 r4 r5; print r0; end; halt")
	testTidy(t, "const r1 5; calc add r1 r0 r1; branch r1 1 2 | print r0; halt | print r1; halt", "const r1 5; calc add r1 r0 r1; branch r1 1 2 | print r0; halt | print r1; halt")
}

// ending are instructions that end a thread, each with how they are to be read: within a block of the language or outside of it too. Their registers nobody asks again.
func ending() map[string]bool {
	return map[string]bool{
		"const r0 1; const r1 0; calc div r2 r0 r1": false, "const r1 0; calc mod r2 r0 r1": false, "calc div r2 r0 r1": false, "calc mod r1 r1 r1": false, "const r0 0; calc div r0 r0 r0": false,
		"const r4 0; nil r4": false, "nil r4": false, "index r0 1": false, "const r0 4; index r0 4": false, "const r0 -1; index r0 4": false, "const r0 3; index r0 4": false, "shared r4 1; nil r4": false,
		"new r4 1 0": true, "new r4 64 8": true, "load r0 r4 - 0": true, "const r4 0; load r0 r4 - 0": true, "const r4 0; load r5 r4 - 5": true, "shared r4 1; load r0 r4 - 0": true, "shared r4 7; load r0 r4 - 64": true, "const r0 -1; shared r4 1; load r1 r4 r0 0": true,
		"store r0 r4 - 0": true, "shared r4 1; store r0 r4 - 0": true, "const r0 9; shared r4 1; store r5 r4 r0 1": true, "ownload r0 r4 - 0": true, "shared r4 2; ownload r0 r4 - 0": true, "ownstore r0 r4 - 0": true, "shared r4 2; ownstore r0 r4 - 0": true, "const r0 9223372036854775807; shared r4 2; ownload r0 r4 r0 64": true,
	}
}

// TestWhatMayEnd holds that what may end the thread stays, though nobody asks what comes of it: alone, ahead of more, behind prints, and within a block of the language, whose prints are not told then. (P14.3)
func TestWhatMayEnd(t *testing.T) {
	for text, inside := range ending() {
		if !inside {
			testSelf(t, text+"; halt")
			testSelf(t, text+"; print r3; halt")
			testSelf(t, "print r3; "+text+"; print r3; halt")
			testAll(t, read(t, "print r3; jump 1 | "+text+"; jump 2 | const r3 1; branch r3 0 1"))
		}
		testSelf(t, "begin; "+text+"; end; halt")
		testSelf(t, "begin; print r3; "+text+"; print r3; end; print r3; halt")
		// What is done ahead of it is undone.
		testAll(t, read(t, "begin; const r3 8; shared r7 1; store r3 r7 - 0; end; begin; const r3 9; shared r7 1; store r3 r7 - 0; print r3; "+text+"; end; begin; const r3 7; shared r7 1; store r3 r7 - 0; end; halt", "begin; shared r7 1; load r3 r7 - 0; end; print r3; jump 0"))
		testAll(t, read(t, "begin; branch r3 1 2 | "+text+"; jump 3 | print r3; jump 3 | end; halt"))
	}
}

// TestNoMemory holds that what is made stays, so that there is no more room just when there was none. (P14.3)
func TestNoMemory(t *testing.T) {
	for _, room := range []int{0, 1, 2, 3, 63, 64, 65, 127, 128, 129} {
		c := read(t, "const r0 3; jump 1 | begin; new r4 1 0; new r4 64 1; const r4 0; const r1 1; calc sub r0 r0 r1; end; print r0; branch r0 1 2 | halt", "begin; new r5 2 0; end; jump 0")
		c.Words = api.MaxHeap - room
		testAll(t, c)
	}
}

// TestSpare holds that what does nothing but change a register goes, if nobody asks it again; and stays, if somebody does. (P14.3, P14.4)
func TestSpare(t *testing.T) {
	for _, i := range []string{"const r1 5", "move r1 r0", "calc add r1 r0 r2", "calc sub r1 r0 r2", "calc mul r1 r0 r2", "calc and r1 r0 r2", "calc or r1 r0 r2", "calc xor r1 r0 r2", "calc shl r1 r0 r2", "calc shr r1 r0 r2", "calc eq r1 r0 r2", "calc ne r1 r4 r5", "calc lt r1 r0 r2", "calc le r1 r0 r2"} {
		testTidy(t, i+"; print r0; halt", "print r0; halt")
		testTidy(t, i+"; const r1 6; print r1; halt", "const r1 6; print r1; halt")
		testTidy(t, i+"; jump 1 | print r0; move r1 r0; print r1; jump 1", "print r0; move r1 r0; print r1; jump 0")
		testSelf(t, i+"; print r1; halt")
		testSelf(t, i+"; branch r2 1 2 | print r1; halt | halt")
		testSelf(t, i+"; jump 1 | print r0; branch r2 1 2 | print r1; halt")
	}
	for _, i := range []string{"const r6 0", "shared r6 4", "move r6 r4"} {
		testTidy(t, i+"; halt", "halt")
		testTidy(t, i+"; const r6 0; nil r6; halt", "const r6 0; nil r6; halt")
		testSelf(t, i+"; nil r6; halt")
		testSelf(t, "begin; "+i+"; shared r5 1; store r6 r5 - 0; end; halt")
		testSelf(t, "begin; "+i+"; load r0 r6 - 0; end; halt")
		testSelf(t, "begin; "+i+"; ownstore r0 r6 - 0; end; halt")
	}
	testSelf(t, "begin; const r0 2; shared r5 1; load r1 r5 r0 0; end; halt")
	testSelf(t, "begin; const r0 2; shared r5 1; ownstore r1 r5 r0 0; end; halt")
	testSelf(t, "begin; const r0 2; shared r5 1; store r0 r5 - 0; end; halt")
	testSelf(t, "const r0 2; index r0 4; halt")
}

// TestPrints holds that all is told that was, in its order, within blocks of the language and outside. (P14.3)
func TestPrints(t *testing.T) {
	for _, text := range []string{
		"begin; print r0; print r0; end; print r0; halt",
		"begin; end; halt",
		"begin; end; begin; end; begin; end; halt",
		"begin; print r0; end; begin; print r1; end; jump 0",
		"begin; branch r0 1 2 | print r0; jump 2 | end; jump 0",
	} {
		testSelf(t, text)
	}
	testTidy(t, "const r0 1; begin; print r0; const r0 2; print r0; end; const r0 3; print r0; halt", "const r0 1; begin; print r0; const r0 2; print r0; end; const r0 3; print r0; halt")
	testTidy(t, "begin; const r0 1; branch r0 1 2 | print r0; jump 3 | print r1; jump 3 | end; print r0; halt", "begin; const r0 1; print r0; end; print r0; halt")
}

// TestOwn holds that own loads and stores stay own ones, and others others: a run is strange just if it was. (P14.3)
func TestOwn(t *testing.T) {
	for _, text := range []string{
		"begin; new r4 2 0; ownstore r0 r4 - 1; ownload r1 r4 - 1; print r1; end; halt",
		"begin; new r4 2 0; store r0 r4 - 1; load r1 r4 - 1; end; begin; ownload r0 r4 - 1; end; halt",
		"begin; shared r4 2; ownload r0 r4 - 0; end; halt",
		"begin; shared r4 2; ownstore r0 r4 - 0; load r0 r4 - 0; print r0; end; halt",
	} {
		testSelf(t, text)
	}
	// Where it is strange on one way alone, which is not gone.
	testTidy(t, "begin; shared r4 2; const r0 0; branch r0 1 2 | ownload r1 r4 - 0; jump 2 | end; halt", "begin; end; halt")
	testTidy(t, "begin; shared r4 2; const r0 1; branch r0 1 2 | ownload r1 r4 - 0; jump 2 | end; halt", "begin; shared r4 2; ownload r1 r4 - 0; end; halt")
}
