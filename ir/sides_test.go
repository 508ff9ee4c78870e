package ir_test

import (
	"fmt"
	"slices"
	"strconv"
	"strings"
	"testing"
)

// at is ErrGraph at a spot of the first thread.
func at(block, ins int) found { return graphFault(0, block, ins) }

// testSides holds what is wrong with a graph of which the sides matter alone, and with the same graph as another thread's; its blocks are parted by blanks.
func testSides(t *testing.T, blocks string, want found) {
	t.Helper()
	g := sided(t, strings.Fields(blocks)...)
	testCheck(t, blocks, code(g), want)
	if want != nothing() {
		want.thread = 2
	}
	testCheck(t, blocks, code(atOnce(), sided(t, "be>0"), g, atOnce()), want)
}

// TestWrongSides holds which instructions and ends may stand on which side. (P9.1)
func TestWrongSides(t *testing.T) {
	for _, letter := range "nlsLSe" {
		on := string(letter)
		testSides(t, on+".", at(0, 0))
		testSides(t, "c"+on+".", at(0, 1))
		testSides(t, "be"+on+".", at(0, 2))
		testSides(t, ">1 "+on+">1", at(1, 0))
		testSides(t, "?2,1 . be"+on+">1", at(2, 2))
		if letter != 'e' {
			testSides(t, "b"+on+"e.", nothing())
			testSides(t, "b>1 c"+on+">2 e.", nothing())
			testSides(t, "b?1,2 "+on+">3 >3 e>0", nothing())
			testSides(t, "b"+on+">1 "+on+"e"+on+".", at(1, 2))
		}
	}
	for _, letter := range "cmazxhp" {
		on := string(letter)
		testSides(t, on+"b"+on+"e"+on+".", nothing())
		testSides(t, on+">1 "+on+"b>2 "+on+">3 "+on+"e"+on+".", nothing())
		testSides(t, "b>1 "+on+">1", nothing())
	}
	testSides(t, "bb>1 e.", at(0, 1))
	testSides(t, "b>1 b>2 e.", at(1, 0))
	testSides(t, "b>1 cbe.", at(1, 1))
	testSides(t, "bebe>1 be.", nothing())
	testSides(t, "bee.", at(0, 2))
	testSides(t, "b.", at(0, 1))
	testSides(t, "bebcc.", at(0, 5))
	testSides(t, "b>1 .", at(1, 0))
	testSides(t, "b>1 pp.", at(1, 2))
	testSides(t, "b>1 e>2 .", nothing())
	testSides(t, "b>1 >1", nothing())
	testSides(t, "b>1 ?1,2 e.", nothing())
	testSides(t, "b>1 ?1,2 .", at(2, 0))
}

// TestWhatIsNotReached holds that nothing stands on a wrong side there, and that no way begins there. (P9.1)
func TestWhatIsNotReached(t *testing.T) {
	for _, last := range []string{".", ">0", ">1", "?1,0"} {
		for _, l := range []string{"", "e", "b", "l", "n", "bb", "ee", "eb", "s", "bL", "pS", "bn"} {
			testSides(t, ". "+l+last, nothing())
			testSides(t, "be>0 "+l+last, nothing())
		}
	}
	testSides(t, ". b>2 >3 >0 e.", nothing())
	testSides(t, ">1 >0 b>0 e>1 b>1", nothing())
	testSides(t, ">1 . b>1 >1", nothing())
	testSides(t, "b>1 e. e>1 >1 l>2", nothing())
	testSides(t, ">2 b>2 >3 l.", at(3, 0))
	testSides(t, "?2,2 bb>1 .", nothing())
}

// TestBothSides holds that no block may begin on both, and which one is told. (P9.1)
func TestBothSides(t *testing.T) {
	testSides(t, "b>0", at(0, 0))
	testSides(t, "cb>0", at(0, 0))
	testSides(t, "b>1 >0", at(0, 0))
	testSides(t, "?0,1 b>0", at(0, 0))
	testSides(t, "?1,2 b>2 .", at(2, 0))
	testSides(t, "?1,2 b>2 c.", at(2, 0))
	testSides(t, "?2,1 b>2 ce.", at(2, 0))
	testSides(t, "?1,0 b>1", at(1, 0))
	testSides(t, ">1 b>1", at(1, 0))
	testSides(t, ">1 c?1,2 b>1", at(1, 0))
	testSides(t, "b>1 e>1", at(1, 0))
	testSides(t, "b?1,2 >3 e>3 c>3", at(3, 0))
	testSides(t, "b?1,2 e>3 e>3 be>3", nothing())
	testSides(t, "?1,2 b>3 b>3 e.", nothing())
	// The first one by number is told, be it the one at which ways meet or one behind it.
	testSides(t, "?1,2 b>3 >3 >4 .", at(3, 0))
	testSides(t, "?3,2 >4 >5 b>5 . >1", at(1, 0))
	testSides(t, "?3,4 . >1 b>5 >5 >2", at(1, 0))
	testSides(t, "?3,4 . . b>5 >5 >2", at(2, 0))
	testSides(t, "?3,4 . . b>5 >5 b>2", at(5, 0))
	testSides(t, ">1 >2 >3 b>0", at(0, 0))
	testSides(t, ">1 >2 >3 b>1", at(1, 0))
	testSides(t, ">3 . >2 ?1,4 b?2,1", at(1, 0))
	testSides(t, ">3 . >1 ?1,4 b?2,5 >5", at(1, 0))
	testSides(t, ">3 . >1 ?2,4 b?2,5 >5", at(1, 0))
}

// TestOneSideBehindAWrongOne holds how it goes on behind what stands on the wrong side: inside behind an InBegin, outside behind an InEnd. (P9.1)
func TestOneSideBehindAWrongOne(t *testing.T) {
	testSides(t, "?1,2 bb>3 b>3 e.", at(1, 1))
	testSides(t, "?1,2 e>3 >3 .", at(1, 0))
	testSides(t, "?1,2 bb>3 >3 .", at(3, 0))
	testSides(t, "?1,2 bee>3 b>3 e.", at(3, 0))
	testSides(t, "e>1 be.", at(0, 0))
	testSides(t, "b>1 b>1", at(1, 0))
}

// TestBothSidesAheadOfWrongOnes holds that a block which may begin on both is told ahead of all that stands on the wrong side. (P9.1)
func TestBothSidesAheadOfWrongOnes(t *testing.T) {
	for _, wrong := range []string{"e", "l", "n", "s", "L", "S", "bee"} {
		testSides(t, wrong+"?1,2 be>3 >4 >3 b>3", at(3, 0))
		testSides(t, "?1,2 "+wrong+">3 b>3 >3", at(3, 0))
		testSides(t, "?1,3 b>2 e>2 "+wrong+">1", at(2, 0))
	}
	testSides(t, "l?1,2 b>3 >3 .", at(3, 0))
	testSides(t, "?1,2 b>3 >3 l.", at(3, 0))
	testSides(t, "?1,2 bb>3 >3 l.", at(3, 0))
}

// TestFirstWrongSide holds that the first one by number is told, not the first one that is come to. (P9.1)
func TestFirstWrongSide(t *testing.T) {
	testSides(t, "?1,4 l. >5 b>5 b>2 >5", at(1, 0))
	testSides(t, ">2 l. e>1", at(1, 0))
	testSides(t, ">3 . l>1 e>2", at(2, 0))
	testSides(t, ">3 e. l>1 ce>2", at(1, 0))
	testSides(t, "b>3 . ce>1 cb>2", at(3, 1))
	testSides(t, "b>3 l. ce>1 cb>2", at(1, 0))
	testSides(t, "cl>1 l.", at(0, 1))
	testSides(t, "b?2,1 . l.", at(1, 0))
	testSides(t, "b?1,2 ccc. b.", at(1, 3))
	testSides(t, "cle.", at(0, 1))
}

// TestManyWays holds graphs with more ways through them than can be gone, and long ones. (P9.1)
func TestManyWays(t *testing.T) {
	// Each three blocks part and meet again.
	var blocks []string
	for n := 0; n < 4092; n += 3 {
		blocks = append(blocks, fmt.Sprintf("?%d,%d", n+1, n+2), fmt.Sprintf("be>%d", n+3), fmt.Sprintf(">%d", n+3))
	}
	blocks = append(blocks, "b>4093", "e?4094,4094")
	for ends, want := range map[string]found{". ": nothing(), "b>4095 e.": nothing(), ">4095 .": nothing(), "b>4095 .": at(4095, 0), ">4095 l.": at(4095, 0), "b>4094 .": at(4094, 0), "b>0 .": at(0, 0), "?0,4095 .": nothing(), "?0,4095 b>1": at(1, 0), "?0,4095 cb>2000": at(2000, 0)} {
		g := sided(t, append(slices.Clone(blocks), strings.Fields(ends)...)...)
		testCheck(t, "many ways, and then "+ends, code(g), want)
	}
	// Block by block, from the last one on to the first one.
	for last, want := range map[string]found{"e.": nothing(), ".": at(1, 0), "l>1": nothing(), "e>1": at(1, 0), "e>4095": at(1, 0), "be.": at(1, 0), "e>0": nothing(), ">0": at(0, 0)} {
		blocks = []string{"b>4095", last}
		for n := 2; n < 4096; n++ {
			blocks = append(blocks, ">"+strconv.Itoa(n-1))
		}
		testCheck(t, "one long way, and then "+last, code(sided(t, blocks...)), want)
	}
	// Each block leads to each of two others, and all of them to block 0.
	for wrong, want := range map[string]found{"": nothing(), "l": at(4000, 0), "b": at(0, 0)} {
		blocks = nil
		for n := range 4096 {
			blocks = append(blocks, fmt.Sprintf("?%d,%d", (2*n+1)%4096, (2*n+2)%4096))
		}
		blocks[4000] = wrong + blocks[4000]
		testCheck(t, "a tree whose leaves lead back, with "+wrong, code(sided(t, blocks...)), want)
	}
}
