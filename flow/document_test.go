package flow_test

import (
	"testing"

	"turnstile/api"
)

// TestDocument holds the chapter's examples. (P12.1 to P12.4)
func TestDocument(t *testing.T) {
	testBlocks(t, ">1 .", "11", "- 0", "-1 0")
	testBlocks(t, "?1,2 >3 >3 .", "1111", "- 0 0 1,2", "-1 0 0 0")
	testBlocks(t, "?1,1 ?0,2 .", "111", "1 0 1", "-1 0 1")
	testBlocks(t, ". >0", "10", "- -", "-1 -1")
	testBlocks(t, ">1 ?2,3 >1 .", "1111", "- 0,2 1 1", "-1 0 1 1")
	testInside(t, "b>1 e.", "01")
	testRefused(t, "no blocks", api.Graph{})
	testRefused(t, "no blocks", graph())
}
