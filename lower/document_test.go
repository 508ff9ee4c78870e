package lower_test

import (
	"strconv"
	"strings"
	"testing"

	"turnstile/api"
	"turnstile/walk"
)

// chain is so many functions f0, f1 and so on, no more than there may be: each of them has one list, in which @ is the function behind it, but for the last one.
func chain(many int, sort, each, last string) (text string) {
	many = min(many, api.MaxFuncs)
	for i := range many {
		list := strings.ReplaceAll(each, "@", "f"+strconv.Itoa(i+1))
		if i == many-1 {
			list = last
		}
		text += "func f" + strconv.Itoa(i) + sort + " { " + list + " } "
	}
	return text
}

// doubling is functions of which each calls the one behind it twice, but for the last one, which is empty.
func doubling(many int) string { return chain(many, "()", "@(); @();", "") }

// TestDocument holds the chapter's examples. (P11.1, P11.3)
func TestDocument(t *testing.T) {
	testTold(t, "thread { }", "0", "done")
	testTold(t, "thread { print 1 + 2; }", "0 0", "3 done")
	testTold(t, "func f(x int) int { if x { return 5; } } thread { print f(1); print f(0); }", "0 0", "5 0 ..")
	testRefused(t, "a function that calls itself", parsed(t, "func f(x int) int { return f(x); }"), api.ErrArg)
	testRefused(t, "calls without number", read(t, doubling(32)+"thread { f0(); }"), api.ErrLimit)
}

// TestExamplesOfTheWhole holds those of the document's ten examples that say what a program means. (P11.3)
func TestExamplesOfTheWhole(t *testing.T) {
	const block = "thread { atomic { n = n + 1; print n; } } "
	testRows(t, "shared n int; "+block+block,
		row{"0 0 0 1 1 1", "1 done | 2 done"}, row{"1 0 0 1 0 1", "2 done | 1 done"}, row{"0 1 1 1 0 0", "1 done | 2 done"}, row{"1 1 1 0 0 0", "2 done | 1 done"})
	testTold(t, "thread { print 1 / 0; }", "0", "zero")
	const pair = "record r { x int; } shared g r; thread { atomic { var p r = new r; p.x = 5; %g = p; } } thread { atomic { if g != nil { print g.x; } } }"
	testRows(t, strings.Replace(pair, "%", "", 1), row{"0 0 1 1 1", "done | 5 done"}, row{"1 0 1 0", "done | done"}, row{"0 1 1 1", ".. | 5 done"})
	testRows(t, strings.Replace(pair, "%g = p;", "", 1), row{"0 0 1 1 1", "done | done"}, row{"1 0 1 0", "done | done"})
	testRows(t, "thread { atomic { print 1; print 2; } print 3; }", row{"0", ".."}, row{"0 0", "1 .."}, row{"0 0 0", "1 2 .."}, row{"0*4", "1 2 3 .."}, row{"0*5", "1 2 3 done"})
	testRefused(t, "a function that calls itself", parsed(t, "func f(x int) int { return f(x); }"), api.ErrArg)
	testRefused(t, "outside of a block", parsed(t, "shared n int; thread { n = 1; }"), api.ErrArg)
	const endless = "thread { var i int = 0; while 1 { i = i + 1; } }"
	if w, e := walk.Run(lowered(t, endless, read(t, endless)), []int{0, 0}, api.MaxFuel); e != api.OK || told(w.Seen, w.Short) != ".. short" {
		t.Errorf("%s: %v, the error %d", endless, w, e)
	}
	testTold(t, "thread { atomic { print 7; var a [4]int = new [4]int; a[4] = 1; } }", "0", "index")
}
