package shape_test

import (
	"testing"

	"turnstile/api"
)

// TestDocument holds the chapter's examples.
func TestDocument(t *testing.T) {
	gone, wrong := no(api.ErrGone), no(api.ErrType)
	const text = "record r { x int; y [4]r; } shared a int; shared b r;"
	rows := []row{
		{words(), is(2)}, {shared("a"), is(1)}, {shared("b"), is(2)}, {shared("r"), gone},
		{size(ref("r")), is(2)}, {size(array(4, "r")), is(4)}, {size(number()), wrong}, {size(array(65, "")), wrong}, {size(ref("q")), gone}, {size(array(4, "q")), gone},
		{offset("r", "x"), is(0)}, {offset("r", "y"), is(1)}, {offset("r", "z"), gone}, {offset("q", "x"), gone},
	}
	testRows(t, text, rows...)
	p := read(t, text+"thread { print w; }")
	for _, r := range rows {
		r.ask.test(t, "a program that types.Check does not take", p, no(api.ErrArg))
	}
}
