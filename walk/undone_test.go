package walk_test

import (
	"strings"
	"testing"

	"turnstile/api"
)

// faults end a block of the language, or a thread outside: each text by the error that stands behind it. They hang on nothing that stands ahead of them, but that there is no room for 64 words.
func faults() map[string]string {
	return map[string]string{
		"const r3 0/calc div r3 r3 r3": "zero", "const r3 0/calc mod r3 r3 r3": "zero", "const r7 0/nil r7": "nil", "const r3 4/index r3 4": "index", "const r3 -1/index r3 4": "index",
		"const r7 0/load r3 r7 - 0": "fault", "const r7 0/store r3 r7 - 0": "fault", "const r7 0/ownload r3 r7 - 0": "fault", "const r7 0/ownstore r3 r7 - 0": "fault", "const r3 -9/shared r7 1/load r3 r7 r3 5": "fault", "new r7 64 8": "memory",
	}
}

// outside says whether an error may happen outside, too.
func outside(fault string) bool {
	return !strings.Contains(fault, "load") && !strings.Contains(fault, "store") && !strings.Contains(fault, "new")
}

const (
	// room is for how many words there is room behind the shared ones.
	room  = 20
	words = api.MaxHeap - room
	// begun is a block that makes three words, names them by r6 and by the word 4, and gives them and the words 1 to 3 numbers.
	begun = "begin/shared r4 1/const r0 11/store r0 r4 - 0/const r0 12/store r0 r4 - 1/const r0 13/store r0 r4 - 2/new r6 3 7/store r6 r4 - 3/const r0 21/store r0 r6 - 0/const r0 22/store r0 r6 - 1/const r0 23/store r0 r6 - 2/end/"
	// shown is what lookAll tells behind that block alone: there is no fourth word.
	shown   = "11 12 13 21 22 23 fault"
	lookAll = "begin/shared r4 1/load r0 r4 - 0/print r0/load r0 r4 - 1/print r0/load r0 r4 - 2/print r0/load r6 r4 - 3/load r0 r6 - 0/print r0/load r0 r6 - 1/print r0/load r0 r6 - 2/print r0/end/begin/load r0 r6 - 3/end/halt"
)

// TestUndone holds that a block which is ended by an error has told nothing, and has done nothing: to words that it has changed, once or many times, to words that it has made. (P10.1)
func TestUndone(t *testing.T) {
	for fault, end := range faults() {
		for _, changes := range []string{
			"", "print r0/print r1", "const r0 5/shared r4 1/store r0 r4 - 0", "const r0 5/shared r4 1/store r0 r4 - 0/const r0 6/store r0 r4 - 0/const r0 7/store r0 r4 - 0", "const r0 5/shared r4 3/store r0 r4 - 0/shared r4 2/store r0 r4 - 0/print r0/store r1 r4 - 0/store r1 r4 - 1",
			"store r1 r6 - 0/store r1 r6 - 2", "const r0 5/store r0 r6 - 1/store r1 r6 - 1/store r0 r6 - 1", "shared r4 4/store r4 r4 - 0", "shared r4 4/new r5 3 0/store r5 r4 - 0/const r0 5/store r0 r5 - 0/store r0 r5 - 1/store r0 r5 - 2", "shared r4 4/const r5 0/store r5 r4 - 0/store r1 r6 - 0",
			"new r5 17 0", "new r5 1 0/const r0 5/store r0 r5 - 0/store r0 r5 - 0/new r4 16 1/store r0 r4 - 15/print r0", "const r0 5/new r5 2 0/store r0 r5 - 1/shared r4 2/store r0 r4 - 0/new r5 2 1/store r1 r5 - 1/store r1 r4 - 0/store r1 r6 - 0", "const r0 5/shared r4 1/ownstore r0 r6 - 0/store r0 r4 - 0/ownstore r1 r4 - 0",
			"const r0 100/const r1 1/jump 1/block/shared r4 1/load r2 r4 - 0/calc add r2 r2 r0/store r2 r4 - 0/store r2 r6 - 1/print r2/calc sub r0 r0 r1/branch r0 1 2/block",
		} {
			text := begun + "const r0 1/const r1 2/begin/" + changes + "/" + fault + "/print r1/end/print r0/halt"
			strange := ""
			if strings.Contains(changes, "own") {
				strange = " strange"
			}
			testRows(t, read(t, words, text, lookAll), row{"0*9 1*9", end + " | " + shown + strange}, row{"0 0 1 0 0 1*9", end + " | " + shown + strange}, row{"0 1*9", ".. | " + shown})
		}
	}
}

// TestDoneStays holds that what blocks have done stays, whatever error ends the thread behind them, and that it is seen by others as soon as they are done.
func TestDoneStays(t *testing.T) {
	for fault, end := range faults() {
		behind := "begin/print r1/" + fault + "/end/print r1/halt"
		testRows(t, read(t, words, begun+"print r0/"+behind, lookAll), row{"0*9 1*9", "23 " + end + " | " + shown}, row{"0 1*9", ".. | " + shown}, row{"0 0 0 1*9", "23 " + end + " | " + shown})
		if !outside(fault) {
			continue
		}
		testRows(t, read(t, words, begun+fault+"/print r1/halt", lookAll), row{"0 1*9", ".. | " + shown}, row{"0 0 1*9", end + " | " + shown}, row{"0*9 1*9", end + " | " + shown})
		// What waits is told ahead of the error.
		testRows(t, read(t, words, "begin/print r0/const r0 5/print r0/end/"+fault+"/print r0/halt"), row{"0", ".."}, row{"0 0", "0 .."}, row{"0*3", "0 5 .."}, row{"0*4", "0 5 " + end}, row{"0*9", "0 5 " + end})
		testRows(t, read(t, words, fault+"/halt", "print r0/"+fault+"/halt", "print r0/print r0/"+fault+"/print r0/halt"), row{"0 1 2 0 1 2 0 1 2", end + " | 0 " + end + " | 0 0 " + end})
	}
}

// TestPrintsOfBlocksAhead holds that an error within a block takes nothing of what blocks ahead of it have told.
func TestPrintsOfBlocksAhead(t *testing.T) {
	for fault, end := range faults() {
		text := "const r0 1/begin/print r0/print r0/end/const r0 2/begin/print r0/print r0/" + fault + "/print r0/end/print r0/halt"
		testRows(t, read(t, words, text), row{"0", ".."}, row{"0 0", "1 .."}, row{"0*3", "1 1 .."}, row{"0*4", "1 1 " + end}, row{"0*5", "1 1 " + end}, row{"0*9", "1 1 " + end})
	}
}

// TestOthersGoOn holds that a block which is undone takes back nothing of what others have done ahead of it, or do behind it.
func TestOthersGoOn(t *testing.T) {
	const adds = "const r2 10/shared r4 1/load r0 r4 - 0/calc add r0 r0 r2/store r0 r4 - 0/print r0"
	for fault, end := range faults() {
		c := read(t, words, "begin/"+adds+"/end/begin/"+adds+"/"+fault+"/end/halt", "begin/"+adds+"/end/jump 0", lookWord)
		testRows(t, c, row{"0 1 0 0 1 1 2 2", "10 " + end + " | 20 .. | 30 .."}, row{"1 1 1 0 0 0 0 1 2 2", "30 " + end + " | 10 20 .. | 30 .."}, row{"0 0 0 1 1 2 2", "10 " + end + " | 20 .. | 20 .."})
	}
}
