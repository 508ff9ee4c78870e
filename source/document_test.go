package source_test

import (
	"strings"
	"testing"

	"turnstile/api"
)

// TestDocument holds the chapter's examples.
func TestDocument(t *testing.T) {
	testRows(t, "thread { print 1; print 2; }", row{"", ".."}, row{"0", "1 .."}, row{"0 0", "1 2 .."}, row{"0 0 0", "1 2 done"}, row{"1 0", "1 .."})
	const block = " thread { atomic { n = n + 1; print n; } }"
	testRows(t, "shared n int;"+block+block, row{"0 1 0 1", "1 .. | 2 .."}, row{"1 1 0 0", "2 .. | 1 .."})
	testTold(t, "thread { atomic { print 7; print 1 / 0; } }", "0", "zero")
	testTold(t, "record r { x r; } thread { atomic { var p r = new r; p.x.x = p; } }", "0", "nil")
	testTold(t, "thread { atomic { var a [2]int = new [2]int; a[2] = 1; } }", "0", "index")
	testTree(t, "an endless loop", read(t, "thread { while 1 { } }"), []int{0}, 100, ".. short")
	testTold(t, "func f(x int) int { if x { return 5; } } thread { print f(1); print f(0); }", "0 0", "5 0 ..")
	testTold(t, "thread { print 1 && 2; print 0 || 0; print 0 && 1 / 0; }", "0 0 0", "1 0 0 ..")
}

// TestExamplesOfTheWhole holds those of the document's ten examples that say what a program means.
func TestExamplesOfTheWhole(t *testing.T) {
	const block = "thread { atomic { n = n + 1; print n; } } "
	testRows(t, "shared n int; "+block+block,
		row{"0 0 0 1 1 1", "1 done | 2 done"}, row{"1 0 0 1 0 1", "2 done | 1 done"}, row{"0 1 1 1 0 0", "1 done | 2 done"}, row{"1 1 1 0 0 0", "2 done | 1 done"})
	testTold(t, "thread { print 1 / 0; }", "0", "zero")
	const pair = "record r { x int; } shared g r; thread { atomic { var p r = new r; p.x = 5; %g = p; } } thread { atomic { if g != nil { print g.x; } } }"
	testRows(t, strings.ReplaceAll(pair, "%", ""), row{"0 0 1 1 1", "done | 5 done"}, row{"1 1 0 0", "done | done"}, row{"1 0 1 0", "done | done"}, row{"0 1 0 1 1", "done | 5 done"})
	testRows(t, strings.ReplaceAll(pair, "%g = p;", ""), row{"0 0 1 1 1", "done | done"}, row{"1 1 0 0", "done | done"})
	testRows(t, "thread { atomic { print 1; print 2; } print 3; }", row{"0", ".."}, row{"0 0", "1 .."}, row{"0*3", "1 2 .."}, row{"0*4", "1 2 3 .."}, row{"0*5", "1 2 3 done"})
	for _, text := range []string{"func f(x int) int { return f(x); }", "shared n int; thread { n = 1; }"} {
		testTree(t, text, parsed(t, text), []int{0}, plenty, "the error 1")
	}
	testTree(t, "an endless loop", read(t, "thread { var i int = 0; while 1 { i = i + 1; } }"), []int{0, 0, 0}, api.MaxFuel, ".. short")
	testTold(t, "thread { atomic { print 7; var a [4]int = new [4]int; a[4] = 1; } }", "0 0", "index")
}
