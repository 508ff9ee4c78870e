package walk_test

import (
	"strings"
	"testing"

	"turnstile/api"
)

// owns are own loads and stores of the word that r4 names.
func owns() []string { return []string{"ownload r0 r4 - 0", "ownstore r0 r4 - 0"} }

// with lays something at the place of a star in a text.
func with(text, what string) string { return strings.ReplaceAll(text, "*", what) }

// TestStrange holds which words an own load or store may meet: those that were made since the thread's InBegin. (P10.1)
func TestStrange(t *testing.T) {
	for _, own := range owns() {
		for text, want := range map[string]string{
			"begin/shared r4 1/*/end/halt":                                         "done strange",
			"begin/shared r4 2/*/end/halt":                                         "done strange",
			"begin/new r4 3 0/*/end/halt":                                          "done",
			"begin/new r4 3 0/new r5 3 1/*/move r4 r5/*/end/halt":                  "done",
			"begin/new r4 3 0/end/begin/*/end/halt":                                "done strange",
			"begin/new r4 3 0/*/end/begin/*/end/halt":                              "done strange",
			"begin/new r5 3 0/end/begin/new r4 1 1/*/end/halt":                     "done",
			"begin/new r5 3 0/end/begin/new r4 1 1/*/move r4 r5/*/end/halt":        "done strange",
			"begin/new r4 3 0/end/begin/end/begin/end/begin/new r6 1 1/*/end/halt": "done strange",
			"begin/new r4 3 0/move r5 r4/new r4 3 1/*/move r4 r5/*/end/halt":       "done",
			// A word that there is not.
			"begin/*/end/halt":                                                "fault",
			"begin/new r4 1 0/*/const r4 0/*/end/halt":                        "fault",
			"begin/" + reference("r4", 4) + "*/end/halt":                      "fault",
			"begin/" + reference("r4", 3) + "*/end/halt":                      "done strange",
			"begin/" + reference("r4", -1) + "*/end/halt":                     "fault",
			"begin/new r5 1 0/" + reference("r4", 4) + "*/end/halt":           "done",
			"begin/new r5 1 0/end/begin/" + reference("r4", 4) + "*/end/halt": "done strange",
			// Plain ones may meet any.
			"begin/shared r4 1/load r0 r4 - 0/store r0 r4 - 0/end/halt": "done",
		} {
			testRows(t, read(t, 3, with(text, own)), row{"", ".."}, row{"0*9", want})
		}
	}
}

// TestStrangeBySum holds that it is the word which is met that counts, not the one that B names.
func TestStrangeBySum(t *testing.T) {
	for _, kind := range []string{"ownload", "ownstore"} {
		for access, want := range map[string]string{
			"shared r4 3/" + kind + " r0 r4 - 1": "done", "shared r4 3/" + kind + " r0 r4 - 2": "done", "shared r4 3/" + kind + " r0 r4 - 3": "fault", "shared r4 3/" + kind + " r0 r4 - 0": "done strange", "const r1 2/shared r4 2/" + kind + " r0 r4 r1 0": "done", "const r1 1/shared r4 2/" + kind + " r0 r4 r1 0": "done strange",
			"const r1 -1/" + kind + " r0 r5 r1 0": "done strange", "const r1 -1/" + kind + " r0 r5 r1 1": "done", "const r1 -4/" + kind + " r0 r5 r1 0": "fault", "const r1 -4/" + kind + " r0 r5 r1 1": "done strange", kind + " r0 r4 - 4": "done", kind + " r0 r4 - 3": "done strange",
		} {
			testRows(t, read(t, 3, "begin/new r5 2 0/"+access+"/end/halt"), row{"0*9", want})
		}
	}
}

// TestStrangeOfOthers holds own loads and stores of words that another thread has made, since this one's last block or ahead of it.
func TestStrangeOfOthers(t *testing.T) {
	for _, own := range owns() {
		takes := "begin/end/begin/shared r4 1/load r4 r4 - 0/nil r4/" + own + "/end/halt"
		c := read(t, 3, takes, "begin/new r4 3 0/shared r5 1/store r4 r5 - 0/end/begin/new r4 3 1/"+own+"/end/halt")
		testRows(t, c, row{"1 0 0 0", "done | .. strange"}, row{"0 1 0 0", "done | .. strange"}, row{"0 0 1", "nil | .."}, row{"1 1 1 0", ".. | done"}, row{"1 1 0 1 0", ".. | done strange"})
	}
	// Two threads that make words by turns, each of which keeps to its own.
	const keeps = "begin/new r4 2 0/ownstore r0 r4 - 0/ownload r0 r4 - 1/end/jump 0"
	testRows(t, read(t, 3, keeps, keeps), row{"0 1 0 1 1 0 0 0 1", ".. | .."})
	// A number is used anew when a block was undone.
	for _, own := range owns() {
		testRows(t, read(t, 3, "begin/new r4 2 0/"+own+"/nil r6/end/halt", "begin/new r4 1 0/"+own+"/end/halt"), row{"0 1 1", "nil | done"}, row{"1 1 0", "nil | done"})
	}
}

// TestStrangeLeaps holds leaps that are made, that end by an error, and that are not made for want of fuel.
func TestStrangeLeaps(t *testing.T) {
	for _, own := range owns() {
		for fault, end := range faults() {
			c := read(t, words, "begin/print r0/shared r4 1/"+own+"/"+fault+"/end/halt")
			testRows(t, c, row{"", ".."}, row{"0", end + " strange"}, row{"0 0", end + " strange"})
			testRows(t, read(t, words, "begin/print r0/shared r4 1/"+fault+"/"+own+"/end/halt"), row{"0", end})
			testRows(t, read(t, words, "begin/print r0/new r4 1 0/"+own+"/"+fault+"/end/halt"), row{"0", end})
		}
		// begin, shared, own, end: so much of the leap as there is fuel for counts, although it is not made.
		c := read(t, 3, "begin/shared r4 1/"+own+"/end/halt", "print r0/halt")
		for fuel, want := range map[int]string{1: ".. | .. short", 2: ".. | .. short", 3: ".. | .. short strange", 4: ".. | .. short strange", 5: ".. | 0 .. strange"} {
			testRun(t, own, c, []int{0, 1}, fuel, want)
		}
		testRun(t, own, c, []int{1, 0, 0}, 5, ".. | 0 .. short strange")
		// It stays so, whatever comes behind.
		testRows(t, read(t, 3, blocks("shared r4 1/"+own, "new r4 1 0/"+own, "print r0")), row{"0", ".. strange"}, row{"0 0", ".. strange"}, row{"0*9", "0 done strange"})
		// An endless block.
		testRun(t, own, read(t, 3, "begin/shared r4 1/jump 1/block/"+own+"/jump 1"), []int{0}, api.MaxFuel, ".. short strange")
		testRun(t, own, read(t, 3, "begin/new r4 1 0/jump 1/block/"+own+"/jump 1"), []int{0}, 1000, ".. short")
	}
	// Where nothing comes to it, it is none.
	testRows(t, read(t, 3, "begin/branch r0 1 2/block/shared r4 1/ownload r0 r4 - 0/jump 2/block/end/halt/block/ownstore r0 r4 - 0/jump 3"), row{"0*9", "done"})
}
