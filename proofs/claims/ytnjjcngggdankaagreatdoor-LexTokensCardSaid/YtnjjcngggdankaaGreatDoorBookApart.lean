/- A Book that holds two lists of tokens, in memory of their own each, finds them apart. -/
import Derived.Test.YtnjjcngggdankaaGreatDoorRows
import Derived.Test.YtnjjcngggdankaaGreatDoorBookFill
import Derived.Test.YtnjjcngggdankaaGreatDoorBookGrow
import Derived.Test.YtnjjcngggdankaaGreatDoorBookLook
import Derived.Test.YtnjjcngggdankaaGreatDoorBookFillT
import Derived.Test.YtnjjcngggdankaaGreatDoorBookGrowT
import Derived.Test.YtnjjcngggdankaaGreatDoorBookLookT
import Derived.WalkKit
import Derived.WalkSpells
import Derived.WalkLawsBesides
import Derived.Lib.Hide
namespace Go.Proofs.YtnjjcngggdankaaGreatDoor
open Go.RowKit Go.Joins

set_option maxRecDepth 1000000 in
set_option maxHeartbeats 16000000 in
theorem apart_two (B : Nat) (w0 w : World) (K gT cT : Nat) (v0 v1 : Value) (n0 n1 : Nat) (x0 x1 : List Value) (hn0 : n0 ≤ 100000) (hn1 : n1 ≤ 100000) (hT : Two B w0 w K gT cT v0 v1 n0 n1 x0 x1) :
    Calls Tryz.prog 8 #[.pointer (some ⟨K, 0, none⟩)] w fun e w' => e = .returned (.bool true) ∧ Below B w0 w' := by
  go_enter Tryz.func8, Tryz.ntmps8
  go_wp2_with fail
  refine (fillNumber_nil K _ (hT.book.nil 2 rfl)).mono ?_; rintro e w' ⟨rfl, rfl⟩
  go_wp2_with fail
  refine (fillWide_nil K _ (hT.book.nil 3 rfl)).mono ?_; rintro e w' ⟨rfl, rfl⟩
  go_wp2_with fail
  refine (fillText_nil K _ (hT.book.nil 4 rfl)).mono ?_; rintro e w' ⟨rfl, rfl⟩
  go_wp2_with fail
  refine (fillCell_nil K _ (hT.book.nil 5 rfl)).mono ?_; rintro e w' ⟨rfl, rfl⟩
  go_wp2_with fail
  refine (fillIns_nil K _ (hT.book.nil 6 rfl)).mono ?_; rintro e w' ⟨rfl, rfl⟩
  go_wp2_with fail
  refine (fillOp_nil K _ (hT.book.nil 7 rfl)).mono ?_; rintro e w' ⟨rfl, rfl⟩
  go_wp2_with fail
  refine (fillEvent_nil K _ (hT.book.nil 8 rfl)).mono ?_; rintro e w' ⟨rfl, rfl⟩
  go_wp2_with fail
  refine (fillPick_nil K _ (hT.book.nil 9 rfl)).mono ?_; rintro e w' ⟨rfl, rfl⟩
  go_wp2_with fail
  refine (fillPlace_nil K _ (hT.book.nil 10 rfl)).mono ?_; rintro e w' ⟨rfl, rfl⟩
  go_wp2_with fail
  refine (fillTxOp_nil K _ (hT.book.nil 11 rfl)).mono ?_; rintro e w' ⟨rfl, rfl⟩
  go_wp2_with fail
  refine (fill_two B w0 _ K gT cT v0 v1 n0 n1 x0 x1 (by omega) (by omega) hT).mono ?_; clear hT; rintro e w' ⟨rfl, hT⟩
  go_wp2_with fail
  refine (fillField_nil K _ (hT.book.nil 13 rfl)).mono ?_; rintro e w' ⟨rfl, rfl⟩
  go_wp2_with fail
  refine (fillSpot_nil K _ (hT.book.nil 14 rfl)).mono ?_; rintro e w' ⟨rfl, rfl⟩
  go_wp2_with fail
  refine (fillSeen_nil K _ (hT.book.nil 15 rfl)).mono ?_; rintro e w' ⟨rfl, rfl⟩
  go_wp2_with fail
  refine (fillExpr_nil K _ (hT.book.nil 16 rfl)).mono ?_; rintro e w' ⟨rfl, rfl⟩
  go_wp2_with fail
  refine (fillStmt_nil K _ (hT.book.nil 17 rfl)).mono ?_; rintro e w' ⟨rfl, rfl⟩
  go_wp2_with fail
  refine (fillRecord_nil K _ (hT.book.nil 18 rfl)).mono ?_; rintro e w' ⟨rfl, rfl⟩
  go_wp2_with fail
  refine (fillFunc_nil K _ (hT.book.nil 19 rfl)).mono ?_; rintro e w' ⟨rfl, rfl⟩
  go_wp2_with fail
  refine (fillBlock_nil K _ (hT.book.nil 20 rfl)).mono ?_; rintro e w' ⟨rfl, rfl⟩
  go_wp2_with fail
  refine (fillGraph_nil K _ (hT.book.nil 21 rfl)).mono ?_; rintro e w' ⟨rfl, rfl⟩
  go_wp2_with fail
  refine (fillAttempt_nil K _ (hT.book.nil 22 rfl)).mono ?_; rintro e w' ⟨rfl, rfl⟩
  go_wp2_with fail
  refine (fillNumberRow_nil K _ (hT.book.nil 23 rfl)).mono ?_; rintro e w' ⟨rfl, rfl⟩
  go_wp2_with fail
  refine (fillOpRow_nil K _ (hT.book.nil 24 rfl)).mono ?_; rintro e w' ⟨rfl, rfl⟩
  go_wp2_with fail
  refine (fillStmtRow_nil K _ (hT.book.nil 25 rfl)).mono ?_; rintro e w' ⟨rfl, rfl⟩
  go_wp2_with fail
  refine (fillTxRow_nil K _ (hT.book.nil 26 rfl)).mono ?_; rintro e w' ⟨rfl, rfl⟩
  go_wp2_with fail
  refine (fillSeenRow_nil K _ (hT.book.nil 27 rfl)).mono ?_; rintro e w' ⟨rfl, rfl⟩
  go_wp2_with fail
  refine (growNumber_nil K _ (hT.book.nil 2 rfl)).mono ?_; rintro e w' ⟨rfl, rfl⟩
  go_wp2_with fail
  refine (growWide_nil K _ (hT.book.nil 3 rfl)).mono ?_; rintro e w' ⟨rfl, rfl⟩
  go_wp2_with fail
  refine (growText_nil K _ (hT.book.nil 4 rfl)).mono ?_; rintro e w' ⟨rfl, rfl⟩
  go_wp2_with fail
  refine (growCell_nil K _ (hT.book.nil 5 rfl)).mono ?_; rintro e w' ⟨rfl, rfl⟩
  go_wp2_with fail
  refine (growIns_nil K _ (hT.book.nil 6 rfl)).mono ?_; rintro e w' ⟨rfl, rfl⟩
  go_wp2_with fail
  refine (growOp_nil K _ (hT.book.nil 7 rfl)).mono ?_; rintro e w' ⟨rfl, rfl⟩
  go_wp2_with fail
  refine (growEvent_nil K _ (hT.book.nil 8 rfl)).mono ?_; rintro e w' ⟨rfl, rfl⟩
  go_wp2_with fail
  refine (growPick_nil K _ (hT.book.nil 9 rfl)).mono ?_; rintro e w' ⟨rfl, rfl⟩
  go_wp2_with fail
  refine (growPlace_nil K _ (hT.book.nil 10 rfl)).mono ?_; rintro e w' ⟨rfl, rfl⟩
  go_wp2_with fail
  refine (growTxOp_nil K _ (hT.book.nil 11 rfl)).mono ?_; rintro e w' ⟨rfl, rfl⟩
  go_wp2_with fail
  refine (grow_two B w0 _ K gT cT v0 v1 n0 n1 (by omega) (by omega) hT).mono ?_; clear hT; rintro e w' ⟨rfl, v0, v1, hT⟩
  go_wp2_with fail
  refine (growField_nil K _ (hT.book.nil 13 rfl)).mono ?_; rintro e w' ⟨rfl, rfl⟩
  go_wp2_with fail
  refine (growSpot_nil K _ (hT.book.nil 14 rfl)).mono ?_; rintro e w' ⟨rfl, rfl⟩
  go_wp2_with fail
  refine (growSeen_nil K _ (hT.book.nil 15 rfl)).mono ?_; rintro e w' ⟨rfl, rfl⟩
  go_wp2_with fail
  refine (growExpr_nil K _ (hT.book.nil 16 rfl)).mono ?_; rintro e w' ⟨rfl, rfl⟩
  go_wp2_with fail
  refine (growStmt_nil K _ (hT.book.nil 17 rfl)).mono ?_; rintro e w' ⟨rfl, rfl⟩
  go_wp2_with fail
  refine (growRecord_nil K _ (hT.book.nil 18 rfl)).mono ?_; rintro e w' ⟨rfl, rfl⟩
  go_wp2_with fail
  refine (growFunc_nil K _ (hT.book.nil 19 rfl)).mono ?_; rintro e w' ⟨rfl, rfl⟩
  go_wp2_with fail
  refine (growBlock_nil K _ (hT.book.nil 20 rfl)).mono ?_; rintro e w' ⟨rfl, rfl⟩
  go_wp2_with fail
  refine (growGraph_nil K _ (hT.book.nil 21 rfl)).mono ?_; rintro e w' ⟨rfl, rfl⟩
  go_wp2_with fail
  refine (growAttempt_nil K _ (hT.book.nil 22 rfl)).mono ?_; rintro e w' ⟨rfl, rfl⟩
  go_wp2_with fail
  refine (growNumberRow_nil K _ (hT.book.nil 23 rfl)).mono ?_; rintro e w' ⟨rfl, rfl⟩
  go_wp2_with fail
  refine (growOpRow_nil K _ (hT.book.nil 24 rfl)).mono ?_; rintro e w' ⟨rfl, rfl⟩
  go_wp2_with fail
  refine (growStmtRow_nil K _ (hT.book.nil 25 rfl)).mono ?_; rintro e w' ⟨rfl, rfl⟩
  go_wp2_with fail
  refine (growTxRow_nil K _ (hT.book.nil 26 rfl)).mono ?_; rintro e w' ⟨rfl, rfl⟩
  go_wp2_with fail
  refine (growSeenRow_nil K _ (hT.book.nil 27 rfl)).mono ?_; rintro e w' ⟨rfl, rfl⟩
  go_wp2_with fail
  go_loop [3] (fun i => ∃ j : Nat, j ≤ 8 ∧ i = .int .u64 j) (fun i => 8 - (intOf i).toNat)
  case atStart => exact ⟨0, by omega, rfl⟩
  case round =>
    obtain ⟨j, hj, rfl⟩ := hrel
    by_cases hlt : j < 8
    · go_wp2_with fail
      refine (bits_nil K _ _ (hT.book.nil 1 rfl)).mono ?_; rintro e w' ⟨rfl, rfl⟩
      go_wp2_with fail
      go_round
      case rel => exact ⟨j + 1, by omega, by go_num⟩
      case measure => simp [intOf]; omega
    · obtain rfl : j = 8 := by omega
      go_wp2_with fail
      refine (lookNumber_nil K _ (hT.book.nil 2 rfl)).mono ?_; rintro e w' ⟨rfl, rfl⟩
      go_wp2_with fail
      refine (lookWide_nil K _ (hT.book.nil 3 rfl)).mono ?_; rintro e w' ⟨rfl, rfl⟩
      go_wp2_with fail
      refine (lookText_nil K _ (hT.book.nil 4 rfl)).mono ?_; rintro e w' ⟨rfl, rfl⟩
      go_wp2_with fail
      refine (lookCell_nil K _ (hT.book.nil 5 rfl)).mono ?_; rintro e w' ⟨rfl, rfl⟩
      go_wp2_with fail
      refine (lookIns_nil K _ (hT.book.nil 6 rfl)).mono ?_; rintro e w' ⟨rfl, rfl⟩
      go_wp2_with fail
      refine (lookOp_nil K _ (hT.book.nil 7 rfl)).mono ?_; rintro e w' ⟨rfl, rfl⟩
      go_wp2_with fail
      refine (lookEvent_nil K _ (hT.book.nil 8 rfl)).mono ?_; rintro e w' ⟨rfl, rfl⟩
      go_wp2_with fail
      refine (lookPick_nil K _ (hT.book.nil 9 rfl)).mono ?_; rintro e w' ⟨rfl, rfl⟩
      go_wp2_with fail
      refine (lookPlace_nil K _ (hT.book.nil 10 rfl)).mono ?_; rintro e w' ⟨rfl, rfl⟩
      go_wp2_with fail
      refine (lookTxOp_nil K _ (hT.book.nil 11 rfl)).mono ?_; rintro e w' ⟨rfl, rfl⟩
      go_wp2_with fail
      refine (look_two B w0 _ K gT cT v0 v1 (n0 + 3) (n1 + 3) (by omega) (by omega) hT).mono ?_; clear hT; rintro e w' ⟨rfl, hT⟩
      go_wp2_with fail
      refine (lookField_nil K _ (hT.book.nil 13 rfl)).mono ?_; rintro e w' ⟨rfl, rfl⟩
      go_wp2_with fail
      refine (lookSpot_nil K _ (hT.book.nil 14 rfl)).mono ?_; rintro e w' ⟨rfl, rfl⟩
      go_wp2_with fail
      refine (lookSeen_nil K _ (hT.book.nil 15 rfl)).mono ?_; rintro e w' ⟨rfl, rfl⟩
      go_wp2_with fail
      refine (lookExpr_nil K _ (hT.book.nil 16 rfl)).mono ?_; rintro e w' ⟨rfl, rfl⟩
      go_wp2_with fail
      refine (lookStmt_nil K _ (hT.book.nil 17 rfl)).mono ?_; rintro e w' ⟨rfl, rfl⟩
      go_wp2_with fail
      refine (lookRecord_nil K _ (hT.book.nil 18 rfl)).mono ?_; rintro e w' ⟨rfl, rfl⟩
      go_wp2_with fail
      refine (lookFunc_nil K _ (hT.book.nil 19 rfl)).mono ?_; rintro e w' ⟨rfl, rfl⟩
      go_wp2_with fail
      refine (lookBlock_nil K _ (hT.book.nil 20 rfl)).mono ?_; rintro e w' ⟨rfl, rfl⟩
      go_wp2_with fail
      refine (lookGraph_nil K _ (hT.book.nil 21 rfl)).mono ?_; rintro e w' ⟨rfl, rfl⟩
      go_wp2_with fail
      refine (lookAttempt_nil K _ (hT.book.nil 22 rfl)).mono ?_; rintro e w' ⟨rfl, rfl⟩
      go_wp2_with fail
      refine (lookNumberRow_nil K _ (hT.book.nil 23 rfl)).mono ?_; rintro e w' ⟨rfl, rfl⟩
      go_wp2_with fail
      refine (lookOpRow_nil K _ (hT.book.nil 24 rfl)).mono ?_; rintro e w' ⟨rfl, rfl⟩
      go_wp2_with fail
      refine (lookStmtRow_nil K _ (hT.book.nil 25 rfl)).mono ?_; rintro e w' ⟨rfl, rfl⟩
      go_wp2_with fail
      refine (lookTxRow_nil K _ (hT.book.nil 26 rfl)).mono ?_; rintro e w' ⟨rfl, rfl⟩
      go_wp2_with fail
      refine (lookSeenRow_nil K _ (hT.book.nil 27 rfl)).mono ?_; rintro e w' ⟨rfl, rfl⟩
      go_wp2_with fail
      go_ret
      exact ⟨rfl, hT.below⟩
end Go.Proofs.YtnjjcngggdankaaGreatDoor
