package live_test

import (
	"testing"

	"turnstile/api"
)

// TestDocument holds the chapter's examples. (P13.1 to P13.3)
func TestDocument(t *testing.T) {
	g := readOf(t, "3 0", "const r0 1; calc add r1 r0 r2; branch r1 0 1", "print r0; halt")
	testIn(t, g, "2; 0")
	testAt(t, g, 0, "2; 0 2; 0 1 2")
	testAt(t, g, 1, "0; -")
	testNoSpot(t, g, spot(1, 2))
	testNoBegin(t, g, spot(0, 0))
	g = readOf(t, "2 0", "begin; calc add r0 r0 r1; end; print r0; const r1 2; halt")
	testSaved(t, g, 0, 0, "0")
	testRefused(t, "no blocks", api.Graph{})
	testRefused(t, "no blocks", api.Graph{Refs: make([]bool, 3)})
}
