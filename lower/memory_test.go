package lower_test

import (
	"slices"
	"strings"
	"testing"

	"turnstile/api"
	"turnstile/source"
	"turnstile/walk"
)

// testOutOfMemory holds what the graphs tell of a program that makes more than MaxHeap words: the thread 0 is ended by EndMemory, and has told by then what the language says.
func testOutOfMemory(t *testing.T, text string, picks []int, want string) {
	t.Helper()
	p := read(t, text)
	w, e := walk.Run(lowered(t, text, p), picks, api.MaxFuel)
	l, short, e2 := source.Run(p, picks, api.MaxFuel)
	if e != api.OK || e2 != api.OK || short || w.Short || w.Strange || w.Seen[0].End != api.EndMemory {
		t.Fatalf("%s: the errors %d, %d, short %v, %v", text, e, e2, short, head(w))
	}
	if got := told(w.Seen, false); got != want {
		t.Errorf("%s: %s, not %s", text, got, want)
	}
	if n := len(w.Seen[0].Out); n > len(l[0].Out) || !slices.Equal(w.Seen[0].Out, l[0].Out[:n]) {
		t.Errorf("%s: %s, and the language says %s", text, told(w.Seen, false), told(l, false))
	}
}

// TestMaxHeap holds programs that make just as many words as graphs may make, and more. (P11.3)
func TestMaxHeap(t *testing.T) {
	// 1023 arrays of 64 words, one of 63, and the shared word.
	const full = "shared n int; thread { print 1; atomic { while n < 1023 { var a [64]int = new [64]int; a[63] = n; n = n + 1; } var a [63]int = new [63]int; a[62] = 7; print a[62]; } print 2; @ } thread { atomic { print n; } }"
	testTold(t, strings.Replace(full, "@", "", 1), "0*9 1 1", "1 7 2 done | 1023 ..")
	testTold(t, strings.Replace(full, "@", "atomic { n = 5; } print n2(3); } func n2(a int) int { return a;", 1), "0*9 1 1", "1 7 2 3 done | 5 ..")
	for _, more := range []string{"new [1]int", "new [64]int", "new [2]r", "new r"} {
		text := "record r { x int; } " + strings.Replace(full, "@", "atomic { n = 5; print "+more+" == nil; } print 4;", 1)
		// The block in which there is no more room has done nothing.
		testOutOfMemory(t, text, picked(t, "0*9 1 1"), "1 7 2 memory | 1023 ..")
	}
	testOutOfMemory(t, strings.NewReplacer("[63]int", "[64]int", "@", "").Replace(full), picked(t, "0*9 1 1"), "1 memory | 0 ..")
	testOutOfMemory(t, "shared m int; "+strings.Replace(full, "@", "", 1), picked(t, "0*9 1 1"), "1 memory | 0 ..")
	// What nobody can reach is not made again.
	const loop = "record r { x int; n r; } shared g r; thread { var i int; while 1 { atomic { var a [64]int = new [64]int; g = new r; } i = i + 1; if i % 400 == 0 { print i; } } } thread { while 1 { atomic { if g != nil { print g.x; g.x = 3; print g.x; } } } }"
	testTold(t, loop, "0*900 1*4", "400 800 .. | 0 3 ..")
	testOutOfMemory(t, loop, picked(t, "0*1100 1*4"), "400 800 memory | 0 3 ..")
	// A block that has had an error leaves its room to others.
	testTold(t, "thread { atomic { var i int; while i < 1000 { var a [64]int = new [64]int; i = i + 1; } print i; print 1 / 0; } } thread { atomic { var i int; while i < 1000 { var a [64]int = new [64]int; i = i + 1; } print i; } }", "0*2 1*3", "zero | 1000 done")
}
