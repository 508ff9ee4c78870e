package shape_test

import (
	"strconv"
	"testing"

	"turnstile/api"
)

// TestSharedWords holds how many words are shared, and which one each variable has. (P7.1)
func TestSharedWords(t *testing.T) {
	gone := no(api.ErrGone)
	testRows(t, "", row{words(), is(0)}, row{shared("a"), gone}, row{shared(""), gone})
	testRows(t, "shared a int;", row{words(), is(1)}, row{shared("a"), is(1)}, row{shared("b"), gone}, row{shared("aa"), gone}, row{shared(""), gone})
	// A variable has one word, whatever its type.
	testRows(t, "record r { x int; y int; z int; } shared e [64]int; shared g r; shared l [64]r; shared n int;",
		row{words(), is(4)}, row{shared("e"), is(1)}, row{shared("g"), is(2)}, row{shared("l"), is(3)}, row{shared("n"), is(4)})
	// Neither their names nor their types say which one is ahead.
	testRows(t, "shared z int; shared m [2]int; shared a int; shared ma int; shared m1 int; shared am int;",
		row{words(), is(6)}, row{shared("z"), is(1)}, row{shared("m"), is(2)}, row{shared("a"), is(3)}, row{shared("ma"), is(4)}, row{shared("m1"), is(5)}, row{shared("am"), is(6)})
	// Other things stand between them.
	testRows(t, "thread { } shared b int; record r { x int; } func f() { } shared a r; record q { x int; } thread { } shared c int; func g() { }",
		row{words(), is(3)}, row{shared("b"), is(1)}, row{shared("a"), is(2)}, row{shared("c"), is(3)})
}

// TestOtherNamesAreNotShared asks for names of all other things, and for texts that are no names. (P7.1)
func TestOtherNamesAreNotShared(t *testing.T) {
	const text = "record r { x int; y r; } shared s int; func f(p int) { var v int = p; } thread { var w int; if w { var w1 int; } }"
	for _, name := range []string{"r", "x", "y", "f", "p", "v", "w", "w1", "", "S", "s ", " s", "ss", "s1", "s_", "s\x00", "s;", "1", "shared", "int", "nil", "none"} {
		testRows(t, text, row{shared(name), no(api.ErrGone)})
	}
	testRows(t, text, row{words(), is(1)}, row{shared("s"), is(1)})
	testRows(t, "record r { x int; } func f() { } thread { var v int; }", row{words(), is(0)}, row{shared("r"), no(api.ErrGone)}, row{shared("f"), no(api.ErrGone)}, row{shared("v"), no(api.ErrGone)})
	// A name of 16 bytes is looked for as a whole.
	testRows(t, "shared abcdefghijklmno int; shared abcdefghijklmnop int; shared abcdefghijklmnoq int;",
		row{shared("abcdefghijklmno"), is(1)}, row{shared("abcdefghijklmnop"), is(2)}, row{shared("abcdefghijklmnoq"), is(3)}, row{shared("abcdefghijklmnopq"), no(api.ErrGone)})
}

// TestManySharedVariables holds each number of variables that a program may have. (P7.1)
func TestManySharedVariables(t *testing.T) {
	var p api.Program
	for n := range api.MaxItems + 1 {
		words().test(t, n, p, is(n))
		if n > 0 {
			shared("s1").test(t, n, p, is(1))
			shared("s"+strconv.Itoa(n)).test(t, n, p, is(n))
		}
		shared("s"+strconv.Itoa(n+1)).test(t, n, p, no(api.ErrGone))
		p.Shared = append(p.Shared, api.Field{Name: "s" + strconv.Itoa(n+1), Type: number()})
	}
	// One more than there may be.
	words().test(t, len(p.Shared), p, no(api.ErrArg))
	shared("s1").test(t, len(p.Shared), p, no(api.ErrArg))
}
