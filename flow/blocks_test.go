package flow_test

import "testing"

// TestRows holds one block, and blocks in a row, in the order of their numbers and in others. (P12.1 to P12.3)
func TestRows(t *testing.T) {
	testBlocks(t, ".", "1", "-", "-1")
	testBlocks(t, "pcp.", "1", "-", "-1")
	testBlocks(t, ">1 >2 >3 .", "1111", "- 0 1 2", "-1 0 1 2")
	testBlocks(t, ">3 . >1 >2", "1111", "- 2 3 0", "-1 2 3 0")
	testBlocks(t, ">2 >3 >1 .", "1111", "- 2 0 1", "-1 2 0 1")
	testBlocks(t, "?1,1 ?2,2 .", "111", "- 0 1", "-1 0 1")
}

// TestBranches holds ways that part and meet again, or do not. (P12.2, P12.3)
func TestBranches(t *testing.T) {
	testBlocks(t, "?1,2 . .", "111", "- 0 0", "-1 0 0")
	testBlocks(t, "?2,1 . .", "111", "- 0 0", "-1 0 0")
	testBlocks(t, "?1,2 >2 .", "111", "- 0 0,1", "-1 0 0")
	testBlocks(t, "?2,1 >2 .", "111", "- 0 0,1", "-1 0 0")
	testBlocks(t, "?1,2 . >1", "111", "- 0,2 0", "-1 0 0")
	testBlocks(t, "?4,3 . >1 >2 >2", "11111", "- 2 3,4 0 0", "-1 2 0 0 0")
	testBlocks(t, ">1 ?2,3 >4 >4 >5 .", "111111", "- 0 1 1 2,3 4", "-1 0 1 1 1 4")
	testBlocks(t, "?1,4 ?2,3 >5 >5 >5 .", "111111", "- 0 1 1 0 2,3,4", "-1 0 1 1 0 0")
	testBlocks(t, "?1,4 ?2,3 >6 >6 >5 >6 .", "1111111", "- 0 1 1 0 4 2,3,5", "-1 0 1 1 0 4 0")
	testBlocks(t, "?1,3 ?2,4 . ?4,5 ?2,5 .", "111111", "- 0 1,4 0 1,3 3,4", "-1 0 0 0 0 0")
	testBlocks(t, ">1 ?2,3 ?4,5 ?5,6 . . .", "1111111", "- 0 1 1 2 2,3 3", "-1 0 1 1 2 1 3")
	testBlocks(t, "?1,1 ?2,2 ?2,2", "111", "- 0 1,2", "-1 0 1")
}

// TestLoops holds loops, those within others, those of one block, and those that lead back to block 0. (P12.2, P12.3)
func TestLoops(t *testing.T) {
	testBlocks(t, ">0", "1", "0", "-1")
	testBlocks(t, "?0,0", "1", "0", "-1")
	testBlocks(t, "?0,1 .", "11", "0 0", "-1 0")
	testBlocks(t, "?1,0 .", "11", "0 0", "-1 0")
	testBlocks(t, ">1 >0", "11", "1 0", "-1 0")
	testBlocks(t, ">1 >1", "11", "- 0,1", "-1 0")
	testBlocks(t, ">1 ?1,2 .", "111", "- 0,1 1", "-1 0 1")
	testBlocks(t, ">1 >2 ?0,1", "111", "2 0,2 1", "-1 0 1")
	testBlocks(t, ">1 ?2,5 >3 ?4,1 >3 .", "111111", "- 0,3 1 2,4 3 1", "-1 0 1 2 3 1")
	testBlocks(t, "?1,5 ?2,0 ?3,1 ?4,2 >0 .", "111111", "1,4 0,2 1,3 2 3 0", "-1 0 1 2 3 0")
	testBlocks(t, ">3 . ?1,3 >2", "1111", "- 2 3 0,2", "-1 2 3 0")
	testBlocks(t, "?1,2 >0 >0", "111", "1,2 0 0", "-1 0 0")
	testBlocks(t, ">1 ?2,3 >1 ?4,1 .", "11111", "- 0,2,3 1 1 3", "-1 0 1 1 3")
}

// TestLoopsOfSeveralWaysIn holds loops that are entered at more than one place. (P12.3)
func TestLoopsOfSeveralWaysIn(t *testing.T) {
	testBlocks(t, "?1,2 >2 >1", "111", "- 0,2 0,1", "-1 0 0")
	testBlocks(t, "?1,2 >2 ?1,3 .", "1111", "- 0,2 0,1 2", "-1 0 0 2")
	testBlocks(t, ">1 ?2,3 ?3,4 ?2,4 .", "11111", "- 0 1,3 1,2 2,3", "-1 0 1 1 1")
	testBlocks(t, "?1,2 ?3,2 >4 >4 ?3,5 .", "111111", "- 0 0,1 1,4 2,3 4", "-1 0 0 0 0 4")
	testBlocks(t, "?1,2 >5 ?3,4 >4 >3 ?1,6 ?5,2", "1111111", "- 0,5 0,6 2,4 2,3 1,6 5", "-1 0 0 2 2 1 5")
	testBlocks(t, "?3,4 >2 >1 >2 >1", "11111", "- 2,4 1,3 0 0", "-1 0 0 0 0")
	// What lies on every way is seen late: only when loops have been gone back several times.
	testBlocks(t, "?1,8 >2 >3 >4 >5 >6 >7 . ?7,6 ?8,5", "1111111110", "- 0 1 2 3 4 5,8 6,8 0 -", "-1 0 1 2 3 4 0 0 0 -1")
	testBlocks(t, "?1,7 ?2,0 ?3,0 ?4,1 ?5,2 ?6,3 ?7,4 >5", "11111111", "1,2 0,3 1,4 2,5 3,6 4,7 5 0,6", "-1 0 0 0 0 0 5 0")
}

// TestNotReached holds blocks that nothing leads to, such as only these lead to, and that they are not ahead of others. (P12.1 to P12.3)
func TestNotReached(t *testing.T) {
	testBlocks(t, ". .", "10", "- -", "-1 -1")
	testBlocks(t, ". >1", "10", "- -", "-1 -1")
	testBlocks(t, ". >2 >1", "100", "- - -", "-1 -1 -1")
	testBlocks(t, ". ?2,3 >0 >1", "1000", "- - - -", "-1 -1 -1 -1")
	testBlocks(t, ">2 >2 .", "101", "- - 0", "-1 -1 0")
	testBlocks(t, ">2 ?2,0 ?0,2", "101", "2 - 0,2", "-1 -1 0")
	testBlocks(t, ">3 ?2,3 >3 ?5,6 >5 >6 .", "1001011", "- - - 0 - 3 3,5", "-1 -1 -1 0 -1 3 3")
	testBlocks(t, ">1 >2 . >4 ?1,2 ?0,3", "111000", "- 0 1 - - -", "-1 0 1 -1 -1 -1")
	testBlocks(t, ">4 . >1 >2 .", "10001", "- - - - 0", "-1 -1 -1 -1 0")
}

// TestInside holds blocks that begin inside, outside, and such as are not reached. (P12.4)
func TestInside(t *testing.T) {
	testInside(t, "be.", "0")
	testInside(t, "b>1 e>2 .", "010")
	testInside(t, "b>1 >2 >3 e.", "0111")
	testInside(t, ">1 b>2 e.", "001")
	testInside(t, "be>1 .", "00")
	testInside(t, "beb>1 e.", "01")
	testInside(t, "beb>1 ebebe>2 .", "010")
	testInside(t, "b>1 eb>2 e.", "011")
	testInside(t, "?1,2 b>3 b>3 e.", "0001")
	testInside(t, "?1,2 be>3 >3 .", "0000")
	testInside(t, "b?1,2 >3 >3 e>0", "0111")
	testInside(t, "b?1,2 e>0 e>0", "011")
	testInside(t, "b?1,2 ?1,2 ?1,3 e.", "0111")
	testInside(t, "b>1 >1", "01")
	testInside(t, "bnl>1 Slp>2 Se.", "011")
	testInside(t, ">3 . e>1 b>2", "0010")
	testInside(t, "b>3 . e>1 lpcS>2", "0011")
	testInside(t, "b>3 >4 e>1 ?2,3 .", "00110")
}

// TestInsideOfWhatIsNotReached holds that it is false, on whatever side others of these end. (P12.4)
func TestInsideOfWhatIsNotReached(t *testing.T) {
	testInside(t, ". b>2 e.", "000")
	testInside(t, ". b>2 >3 e.", "0000")
	testInside(t, ". e>2 b>1", "000")
	testInside(t, "b>1 e. >1 >2", "0100")
	testInside(t, "b>3 >3 b>3 e>4 . b>4 >6", "0001000")
	testInside(t, "be>3 b>3 >2 . b>0", "00000")
	testInside(t, ">1 . b?0,1 bbb>2", "0000")
}
