/- A Book that holds two lists of tokens: all of both is written over with their marks. -/
import Derived.Test.YtnjjcngggdankaaGreatDoorRows
import Derived.Test.YtnjjcngggdankaaGreatDoorBookTwo
import Derived.Deep.RegionLaw
import Derived.Deep.RegionWith
import Derived.Deep.DrawnRows
import Derived.WalkKit
import Derived.WalkSpells
import Derived.WalkLawsBesides
import Derived.Lib.Hide
namespace Go.Proofs.YtnjjcngggdankaaGreatDoor
open Go.RowKit Go.Joins

attribute [local go_sem ↓] Go.wp_at_zero Go.wp_at_succ

def upTo (i j : Nat) (a b : List Value) : List Value := if j < i then a else b

set_option maxRecDepth 100000 in
set_option maxHeartbeats 8000000 in
theorem fill_two (B : Nat) (w0 w : World) (K gT cT : Nat) (v0 v1 : Value) (n0 n1 : Nat) (x0 x1 : List Value) (hn0 : n0 ≤ 1000000) (hn1 : n1 ≤ 1000000) (hT : Two B w0 w K gT cT v0 v1 n0 n1 x0 x1) :
    Calls Tryz.prog 26 #[.pointer (some ⟨K, 0, none⟩)] w fun e w' => e = .returned (.tuple #[]) ∧ Two B w0 w' K gT cT v0 v1 n0 n1 (marks 0 n0) (marks 1 n1) := by
  have k12 : w.cell? ⟨K, 12, none⟩ = some (.slice (some ⟨gT, 0, none⟩) 2 cT) := hT.book.cell 12
  have HT0 := Lib.hid hT
  clear hT
  go_enter Tryz.func26, Tryz.ntmps26
  go_wp2_with fail
  clear k12
  go_loopw [10] (fun iv wr => ∃ i : Nat, i ≤ 2 ∧ iv = .int .i64 i ∧ Two B w0 wr K gT cT v0 v1 n0 n1 (upTo i 0 (marks 0 n0) x0) (upTo i 1 (marks 1 n1) x1)) (fun iv _ => 2 - (intOf iv).toNat)
  case atStart => exact ⟨0, by omega, rfl, HT0.out⟩
  case round =>
    obtain ⟨i, hi, rfl, hT⟩ := hrel
    rcases (show i = 0 ∨ i = 1 ∨ i = 2 by omega) with rfl | rfl | rfl
    · replace hT : Two B w0 wr K gT cT v0 v1 n0 n1 x0 x1 := hT
      rw [show ((0 : Nat) : Int) = 0 from rfl]
      obtain ⟨A, c, rfl⟩ := own_slice hT.row0
      have k12 : wr.cell? ⟨K, 12, none⟩ = some (.slice (some ⟨gT, 0, none⟩) 2 cT) := hT.book.cell 12
      obtain ⟨t0, t1, t2, t3⟩ := hT.cells
      have HXL := Lib.hid hT.row0.1
      have HT1 := Lib.hid hT
      clear hT
      go_wp2_with fail
      obtain ⟨wo, hwo⟩ : ∃ wo : World, wo = wr := ⟨_, rfl⟩
      subst hwo
      go_loopw [24] (fun kv wr => ∃ k : Nat, k ≤ n0 ∧ kv = .int .i64 k ∧ Two B w0 wr K gT cT (.slice A n0 c) v1 n0 n1 (partly 0 k x0) x1) (fun kv _ => n0 - (intOf kv).toNat)
      case atStart => exact ⟨0, by omega, rfl, by rw [partly_none]; exact HT1.out⟩
      case round =>
        obtain ⟨k, hk, rfl, hT⟩ := hrel
        by_cases hlt : k < n0
        · obtain ⟨g, cap, he, _, hgl⟩ := hT.row0.form (by omega)
          injection he with he _ hcap
          subst he
          subst hcap
          obtain ⟨t0, t1, t2, t3⟩ := hT.cells
          have hxl := hT.row0.1
          have htl := (hT.held.lt gT rfl).2
          obtain ⟨u0, c0⟩ := own_there hT.row0 (k * 4) (by omega)
          obtain ⟨u1, c1⟩ := own_there hT.row0 (k * 4 + 1) (by omega)
          obtain ⟨u2, c2⟩ := own_there hT.row0 (k * 4 + 2) (by omega)
          obtain ⟨u3, c3⟩ := own_there hT.row0 (k * 4 + 3) (by omega)
          have f0 := hT.row0.frozenAt (k * 4)
          have f1 := hT.row0.frozenAt (k * 4 + 1)
          have f2 := hT.row0.frozenAt (k * 4 + 2)
          have f3 := hT.row0.frozenAt (k * 4 + 3)
          have i1 : (0 : Int) ≤ (k : Int) := by omega
          have i2 : (k : Int) < (n0 : Int) := by omega
          have HM := Lib.hid (fun w => mark_is 0 (by omega) w)
          have hst := ((hT.store0 (k * 4) (.int .u8 0) (.string ⟨#[]⟩) (.int .i64 0) (.int .i64 (-1000 - ((0 : Nat) : Int)))).alloc (.cells #[.int .u8 0, .string ⟨#[]⟩, .int .i64 0, .int .i64 (-1000 - ((0 : Nat) : Int))] 63)).drew
          rw [partly_next 0 k n0 x0 HXL.out hlt] at hst
          have HST : Hid (Two B w0 ((((((wr.setCell ⟨g, k * 4, none⟩ (.int .u8 0)).setCell ⟨g, k * 4 + 1, none⟩ (.string ⟨#[]⟩)).setCell ⟨g, k * 4 + 2, none⟩ (.int .i64 0)).setCell ⟨g, k * 4 + 3, none⟩ (.int .i64 (-1000))).alloc (.cells #[.int .u8 0, .string ⟨#[]⟩, .int .i64 0, .int .i64 (-1000)] 63)).drew) K gT cT (.slice (some ⟨g, 0, none⟩) n0 c) v1 n0 n1 (partly 0 (k + 1) x0) x1) := Lib.hid hst
          clear hT hst hxl
          go_wp2_with fail
          go_region_law (first | (go_simp; go_at_call 127; refine (HM.out _).mono ?_; rintro e w' ⟨rfl, rfl⟩))
          all_goals
            go_wp2_with fail
            go_roundw
            case rel => exact ⟨k + 1, by omega, by go_num, HST.out⟩
            case measure => simp [intOf]; omega
        · obtain rfl : k = n0 := by omega
          rw [partly_all 0 k x0 HXL.out] at hT
          go_wp2_with fail
          go_roundw
          case rel => exact ⟨1, by omega, rfl, hT⟩
          case measure => simp [intOf]
    · replace hT : Two B w0 wr K gT cT v0 v1 n0 n1 (marks 0 n0) x1 := hT
      rw [show ((1 : Nat) : Int) = 1 from rfl]
      obtain ⟨A, c, rfl⟩ := own_slice hT.row1
      have k12 : wr.cell? ⟨K, 12, none⟩ = some (.slice (some ⟨gT, 0, none⟩) 2 cT) := hT.book.cell 12
      obtain ⟨t0, t1, t2, t3⟩ := hT.cells
      have HXL := Lib.hid hT.row1.1
      have HT1 := Lib.hid hT
      clear hT
      go_wp2_with fail
      obtain ⟨wo, hwo⟩ : ∃ wo : World, wo = wr := ⟨_, rfl⟩
      subst hwo
      go_loopw [24] (fun kv wr => ∃ k : Nat, k ≤ n1 ∧ kv = .int .i64 k ∧ Two B w0 wr K gT cT v0 (.slice A n1 c) n0 n1 (marks 0 n0) (partly 1 k x1)) (fun kv _ => n1 - (intOf kv).toNat)
      case atStart => exact ⟨0, by omega, rfl, by rw [partly_none]; exact HT1.out⟩
      case round =>
        obtain ⟨k, hk, rfl, hT⟩ := hrel
        by_cases hlt : k < n1
        · obtain ⟨g, cap, he, _, hgl⟩ := hT.row1.form (by omega)
          injection he with he _ hcap
          subst he
          subst hcap
          obtain ⟨t0, t1, t2, t3⟩ := hT.cells
          have hxl := hT.row1.1
          have htl := (hT.held.lt gT rfl).2
          obtain ⟨u0, c0⟩ := own_there hT.row1 (k * 4) (by omega)
          obtain ⟨u1, c1⟩ := own_there hT.row1 (k * 4 + 1) (by omega)
          obtain ⟨u2, c2⟩ := own_there hT.row1 (k * 4 + 2) (by omega)
          obtain ⟨u3, c3⟩ := own_there hT.row1 (k * 4 + 3) (by omega)
          have f0 := hT.row1.frozenAt (k * 4)
          have f1 := hT.row1.frozenAt (k * 4 + 1)
          have f2 := hT.row1.frozenAt (k * 4 + 2)
          have f3 := hT.row1.frozenAt (k * 4 + 3)
          have i1 : (0 : Int) ≤ (k : Int) := by omega
          have i2 : (k : Int) < (n1 : Int) := by omega
          have HM := Lib.hid (fun w => mark_is 1 (by omega) w)
          have hst := ((hT.store1 (k * 4) (.int .u8 0) (.string ⟨#[]⟩) (.int .i64 0) (.int .i64 (-1000 - ((1 : Nat) : Int)))).alloc (.cells #[.int .u8 0, .string ⟨#[]⟩, .int .i64 0, .int .i64 (-1000 - ((1 : Nat) : Int))] 63)).drew
          rw [partly_next 1 k n1 x1 HXL.out hlt] at hst
          have HST : Hid (Two B w0 ((((((wr.setCell ⟨g, k * 4, none⟩ (.int .u8 0)).setCell ⟨g, k * 4 + 1, none⟩ (.string ⟨#[]⟩)).setCell ⟨g, k * 4 + 2, none⟩ (.int .i64 0)).setCell ⟨g, k * 4 + 3, none⟩ (.int .i64 (-1001))).alloc (.cells #[.int .u8 0, .string ⟨#[]⟩, .int .i64 0, .int .i64 (-1001)] 63)).drew) K gT cT v0 (.slice (some ⟨g, 0, none⟩) n1 c) n0 n1 (marks 0 n0) (partly 1 (k + 1) x1)) := Lib.hid hst
          clear hT hst hxl
          go_wp2_with fail
          go_region_law (first | (go_simp; go_at_call 127; refine (HM.out _).mono ?_; rintro e w' ⟨rfl, rfl⟩))
          all_goals
            go_wp2_with fail
            go_roundw
            case rel => exact ⟨k + 1, by omega, by go_num, HST.out⟩
            case measure => simp [intOf]; omega
        · obtain rfl : k = n1 := by omega
          rw [partly_all 1 k x1 HXL.out] at hT
          go_wp2_with fail
          go_roundw
          case rel => exact ⟨2, by omega, rfl, hT⟩
          case measure => simp [intOf]
    · replace hT : Two B w0 wr K gT cT v0 v1 n0 n1 (marks 0 n0) (marks 1 n1) := hT
      rw [show ((2 : Nat) : Int) = 2 from rfl]
      go_wp2_with fail
      go_end0
      exact ⟨rfl, hT⟩
end Go.Proofs.YtnjjcngggdankaaGreatDoor
