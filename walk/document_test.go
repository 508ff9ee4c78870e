package walk_test

import (
	"testing"

	"turnstile/api"
	"turnstile/ir"
)

// example is a graph of the chapter's: r0 holds references, r1 a number.
func example(threads ...string) string {
	text := "words 2\n"
	for _, s := range threads {
		text += "thread 2 1 r0\nblock\n" + s
	}
	return text
}

// TestDocument holds the chapter's examples. (P10.1)
func TestDocument(t *testing.T) {
	const turn = "begin\nshared r0 1\nload r1 r0 - 0\nprint r1\nconst r1 7\nstore r1 r0 - 0\nend\nhalt\n"
	for _, r := range []struct {
		text, picks string
		fuel        int
		want        string
	}{
		{example("const r1 5\nprint r1\nprint r1\nhalt\n"), "0", plenty, "5 .."},
		{example("const r1 5\nprint r1\nprint r1\nhalt\n"), "0 0", plenty, "5 5 .."},
		{example("const r1 5\nprint r1\nprint r1\nhalt\n"), "0 0 0", plenty, "5 5 done"},
		{example(turn, turn), "0 0 1 1", plenty, "0 .. | 7 .."},
		{example("begin\nnew r0 3 0\nownstore r1 r0 - 2\nend\nhalt\n"), "0", plenty, ".."},
		{example("begin\nshared r0 2\nownload r1 r0 - 0\nend\nhalt\n"), "0", plenty, ".. strange"},
		{example("begin\nnil r0\nend\nhalt\n"), "0", plenty, "nil"},
		{example("begin\nshared r0 2\nload r1 r0 - 1\nend\nhalt\n"), "0", plenty, "fault"},
		{example("const r1 1\njump 1\nblock\njump 1\n"), "0", 9, ".. short"},
	} {
		c, line, e := ir.Parse(r.text)
		if e != api.OK {
			t.Fatalf("%q: ir finds the error %d at %d", r.text, e, line)
		}
		testRun(t, r.text, c, picked(t, r.picks), r.fuel, r.want)
	}
}
