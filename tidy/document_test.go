package tidy_test

import (
	"reflect"
	"testing"

	"turnstile/api"
	"turnstile/tidy"
)

// TestDocument holds the chapter's table of examples. (P14.1, P14.4)
func TestDocument(t *testing.T) {
	testTidy(t, "const r0 1; branch r0 1 2 | print r0; halt | halt", "const r0 1; print r0; halt")
	testTidy(t, "const r0 2; const r1 3; calc mul r2 r0 r1; print r2; halt", "const r2 6; print r2; halt")
	testSelf(t, "const r0 1; const r1 0; calc div r2 r0 r1; halt")
	testSelf(t, "jump 0")
}

// TestNothing holds what becomes of a program without threads. (P14.1, P14.2)
func TestNothing(t *testing.T) {
	for _, c := range []api.Code{{}, {Words: 5}, {Words: api.MaxHeap, Threads: []api.Graph{}}} {
		if less, e := tidy.Tidy(c); e != api.OK || less.Words != c.Words || len(less.Threads) > 0 {
			t.Errorf("%+v becomes %+v and the error %d", c, less, e)
		}
	}
	// Registers and sites that nothing asks stay.
	c := api.Code{Words: 3, Threads: []api.Graph{{Refs: []bool{true, false}, Sites: 7, Blocks: []api.Block{{Last: api.LaHalt}}}}}
	if less, e := tidy.Tidy(c); e != api.OK || !reflect.DeepEqual(less, c) {
		t.Errorf("%+v becomes %+v and the error %d", c, less, e)
	}
}
