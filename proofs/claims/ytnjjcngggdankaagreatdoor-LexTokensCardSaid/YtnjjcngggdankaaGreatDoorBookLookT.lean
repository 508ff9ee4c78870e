/- A Book that holds two lists of tokens, each full of its marks: it finds them so; and with no list of truths its bits are so too. -/
import Derived.Test.YtnjjcngggdankaaGreatDoorRows
import Derived.Test.YtnjjcngggdankaaGreatDoorBookTwo
import Derived.Deep.RegionLaw
import Derived.Deep.RegionWith
import Derived.Deep.DrawnRows
import Derived.WalkKit
import Derived.WalkSpells
import Derived.WalkLawsBesides
import Derived.Lib.Hide
namespace Go.Proofs.YtnjjcngggdankaaGreatDoor
open Go.RowKit Go.Joins

attribute [local go_sem ↓] Go.wp_at_zero Go.wp_at_succ

theorem marks_at (i : Nat) : ∀ (n k j : Nat), k < n → j < 4 → (marks i n)[k * 4 + j]? = (mkC i)[j]?
  | 0, k, j, h, _ => by omega
  | n + 1, k, j, h, hj => by
    have hl := marks_len i n
    rw [marks]
    by_cases hk : k < n
    · rw [List.getElem?_append_left (by omega), marks_at i n k j hk hj]
    · obtain rfl : k = n := by omega
      rw [List.getElem?_append_right (by omega), hl]
      congr 1
      omega
theorem mark_cells {w : World} {B g c n : Nat} {e : TypeId} (i : Nat) (h : w.ownsRow B e 4 (.slice (some ⟨g, 0, none⟩) n c) n (marks i n)) (k : Nat) (hk : k < n) :
    w.cell? ⟨g, k * 4, none⟩ = some (.int .u8 0) ∧ w.cell? ⟨g, k * 4 + 1, none⟩ = some (.string ⟨#[]⟩) ∧ w.cell? ⟨g, k * 4 + 2, none⟩ = some (.int .i64 0) ∧ w.cell? ⟨g, k * 4 + 3, none⟩ = some (.int .i64 (-1000 - (i : Int))) :=
  ⟨(h.cellAt (k * 4) (by omega)).trans (marks_at i n k 0 hk (by omega)), (h.cellAt (k * 4 + 1) (by omega)).trans (marks_at i n k 1 hk (by omega)), (h.cellAt (k * 4 + 2) (by omega)).trans (marks_at i n k 2 hk (by omega)), (h.cellAt (k * 4 + 3) (by omega)).trans (marks_at i n k 3 hk (by omega))⟩

set_option maxRecDepth 100000 in
set_option maxHeartbeats 2000000 in
theorem is_mark (j : Nat) (hj : j ≤ 1000000) (w : World) :
    Calls Tryz.prog 153 #[.agg #[.int .u8 0, .string ⟨#[]⟩, .int .i64 0, .int .i64 (-1000 - (j : Int))], .int .i64 (j : Int)] w fun e w' => e = .returned (.bool true) ∧ Below w.heap.size w w' := by
  have HM := Lib.hid (fun w => mark_is j hj w)
  go_enter Tryz.func153, Tryz.ntmps153
  go_wp2_with fail
  go_region_law (first | (go_simp; go_at_call 127; refine (HM.out _).mono ?_; rintro e w' ⟨rfl, rfl⟩))
  all_goals
    go_wp2_with fail
    go_ret
    exact ⟨rfl, (((Below.refl _ _).alloc (Nat.le_refl _) _).alloc (by simp) _).drew⟩
theorem is_mark0 (w : World) : Calls Tryz.prog 153 #[.agg #[.int .u8 0, .string ⟨#[]⟩, .int .i64 0, .int .i64 (-1000)], .int .i64 0] w fun e w' => e = .returned (.bool true) ∧ Below w.heap.size w w' := is_mark 0 (by omega) w
theorem is_mark1 (w : World) : Calls Tryz.prog 153 #[.agg #[.int .u8 0, .string ⟨#[]⟩, .int .i64 0, .int .i64 (-1001)], .int .i64 1] w fun e w' => e = .returned (.bool true) ∧ Below w.heap.size w w' := is_mark 1 (by omega) w

set_option maxRecDepth 100000 in
set_option maxHeartbeats 8000000 in
theorem look_two (B : Nat) (w0 w : World) (K gT cT : Nat) (v0 v1 : Value) (n0 n1 : Nat) (hn0 : n0 ≤ 1000000) (hn1 : n1 ≤ 1000000) (hT : Two B w0 w K gT cT v0 v1 n0 n1 (marks 0 n0) (marks 1 n1)) :
    Calls Tryz.prog 79 #[.pointer (some ⟨K, 0, none⟩)] w fun e w' => e = .returned (.bool true) ∧ Two B w0 w' K gT cT v0 v1 n0 n1 (marks 0 n0) (marks 1 n1) := by
  have k12 : w.cell? ⟨K, 12, none⟩ = some (.slice (some ⟨gT, 0, none⟩) 2 cT) := hT.book.cell 12
  have HT0 := Lib.hid hT
  clear hT
  go_enter Tryz.func79, Tryz.ntmps79
  go_wp2_with fail
  clear k12
  go_loopw [12] (fun iv wr => ∃ i : Nat, i ≤ 2 ∧ iv = .int .i64 i ∧ Two B w0 wr K gT cT v0 v1 n0 n1 (marks 0 n0) (marks 1 n1)) (fun iv _ => 2 - (intOf iv).toNat)
  case atStart => exact ⟨0, by omega, rfl, HT0.out⟩
  case round =>
    obtain ⟨i, hi, rfl, hT⟩ := hrel
    rcases (show i = 0 ∨ i = 1 ∨ i = 2 by omega) with rfl | rfl | rfl
    · rw [show ((0 : Nat) : Int) = 0 from rfl]
      obtain ⟨A, c, rfl⟩ := own_slice hT.row0
      obtain ⟨t0, t1, t2, t3⟩ := hT.cells
      have htl := (hT.held.lt gT rfl).2
      obtain ⟨X, hX⟩ : ∃ X, X = wr.heap.size := ⟨_, rfl⟩
      have hxb := heap_alloc_new wr (.cells #[.slice A n0 c, .int .i64 0] 80)
      rw [← hX] at hxb
      have HT1 := Lib.hid (hT.alloc (.cells #[.slice A n0 c, .int .i64 0] 80))
      have HXB := Lib.hid hxb
      have HXX := Lib.hid hX
      clear hT hX hxb
      go_wp2_with fail
      rw [← HXX.out]
      clear t0 t1 t2 t3 htl
      go_loopw [19] (fun kv wr => ∃ k : Nat, k ≤ n0 ∧ kv = .int .i64 k ∧ wr.heap[X]? = some (.cells #[.slice A n0 c, .int .i64 0] 80 (0, 0)) ∧ Two B w0 wr K gT cT (.slice A n0 c) v1 n0 n1 (marks 0 n0) (marks 1 n1)) (fun kv _ => n0 - (intOf kv).toNat)
      case atStart => exact ⟨0, by omega, rfl, HXB.out, HT1.out⟩
      case round =>
        obtain ⟨k, hk, rfl, hxb, hT⟩ := hrel
        by_cases hlt : k < n0
        · obtain ⟨g, cap, he, _, hgl⟩ := hT.row0.form (by omega)
          injection he with he _ hcap
          subst he
          subst hcap
          have hxl : X < wr.heap.size := (Array.getElem?_eq_some_iff.1 hxb).1
          have x0 := cell_of_row wr X 0 _ _ (0, 0) hxb
          have x1 := cell_of_row wr X 1 _ _ (0, 0) hxb
          replace x0 : wr.cell? ⟨X, 0, none⟩ = some (.slice (some ⟨g, 0, none⟩) n0 c) := x0
          replace x1 : wr.cell? ⟨X, 1, none⟩ = some (.int .i64 0) := x1
          obtain ⟨c0, c1, c2, c3'⟩ := mark_cells 0 hT.row0 k hlt
          have c3 : wr.cell? ⟨g, k * 4 + 3, none⟩ = some (.int .i64 (-1000)) := c3'
          have HT2 := Lib.hid (hT.alloc (.cells #[.int .u8 0, .string ⟨#[]⟩, .int .i64 0, .int .i64 (-1000)] 63))
          have HX2 := Lib.hid ((heap_alloc_old wr (.cells #[.int .u8 0, .string ⟨#[]⟩, .int .i64 0, .int .i64 (-1000)] 63) hxl).trans hxb)
          have i1 : (0 : Int) ≤ (k : Int) := by omega
          have i2 : (k : Int) < (n0 : Int) := by omega
          clear hT hxb c3'
          go_wp2_with fail
          refine (is_mark0 _).mono ?_; rintro e w2 ⟨rfl, hb2⟩
          have HB2 := Lib.hid hb2
          clear hb2
          go_wp2_with fail
          go_roundw
          case rel => exact ⟨k + 1, by omega, by go_num, (HB2.out.block X (by simp; omega)).trans HX2.out, HT2.out.kept HB2.out⟩
          case measure => simp [intOf]; omega
        · obtain rfl : k = n0 := by omega
          go_wp2_with fail
          go_roundw
          case rel => exact ⟨1, by omega, rfl, hT⟩
          case measure => simp [intOf]
    · rw [show ((1 : Nat) : Int) = 1 from rfl]
      obtain ⟨A, c, rfl⟩ := own_slice hT.row1
      obtain ⟨t0, t1, t2, t3⟩ := hT.cells
      have htl := (hT.held.lt gT rfl).2
      obtain ⟨X, hX⟩ : ∃ X, X = wr.heap.size := ⟨_, rfl⟩
      have hxb := heap_alloc_new wr (.cells #[.slice A n1 c, .int .i64 1] 80)
      rw [← hX] at hxb
      have HT1 := Lib.hid (hT.alloc (.cells #[.slice A n1 c, .int .i64 1] 80))
      have HXB := Lib.hid hxb
      have HXX := Lib.hid hX
      clear hT hX hxb
      go_wp2_with fail
      rw [← HXX.out]
      clear t0 t1 t2 t3 htl
      go_loopw [19] (fun kv wr => ∃ k : Nat, k ≤ n1 ∧ kv = .int .i64 k ∧ wr.heap[X]? = some (.cells #[.slice A n1 c, .int .i64 1] 80 (0, 0)) ∧ Two B w0 wr K gT cT v0 (.slice A n1 c) n0 n1 (marks 0 n0) (marks 1 n1)) (fun kv _ => n1 - (intOf kv).toNat)
      case atStart => exact ⟨0, by omega, rfl, HXB.out, HT1.out⟩
      case round =>
        obtain ⟨k, hk, rfl, hxb, hT⟩ := hrel
        by_cases hlt : k < n1
        · obtain ⟨g, cap, he, _, hgl⟩ := hT.row1.form (by omega)
          injection he with he _ hcap
          subst he
          subst hcap
          have hxl : X < wr.heap.size := (Array.getElem?_eq_some_iff.1 hxb).1
          have x0 := cell_of_row wr X 0 _ _ (0, 0) hxb
          have x1 := cell_of_row wr X 1 _ _ (0, 0) hxb
          replace x0 : wr.cell? ⟨X, 0, none⟩ = some (.slice (some ⟨g, 0, none⟩) n1 c) := x0
          replace x1 : wr.cell? ⟨X, 1, none⟩ = some (.int .i64 1) := x1
          obtain ⟨c0, c1, c2, c3'⟩ := mark_cells 1 hT.row1 k hlt
          have c3 : wr.cell? ⟨g, k * 4 + 3, none⟩ = some (.int .i64 (-1001)) := c3'
          have HT2 := Lib.hid (hT.alloc (.cells #[.int .u8 0, .string ⟨#[]⟩, .int .i64 0, .int .i64 (-1001)] 63))
          have HX2 := Lib.hid ((heap_alloc_old wr (.cells #[.int .u8 0, .string ⟨#[]⟩, .int .i64 0, .int .i64 (-1001)] 63) hxl).trans hxb)
          have i1 : (0 : Int) ≤ (k : Int) := by omega
          have i2 : (k : Int) < (n1 : Int) := by omega
          clear hT hxb c3'
          go_wp2_with fail
          refine (is_mark1 _).mono ?_; rintro e w2 ⟨rfl, hb2⟩
          have HB2 := Lib.hid hb2
          clear hb2
          go_wp2_with fail
          go_roundw
          case rel => exact ⟨k + 1, by omega, by go_num, (HB2.out.block X (by simp; omega)).trans HX2.out, HT2.out.kept HB2.out⟩
          case measure => simp [intOf]; omega
        · obtain rfl : k = n1 := by omega
          go_wp2_with fail
          go_roundw
          case rel => exact ⟨2, by omega, rfl, hT⟩
          case measure => simp [intOf]
    · rw [show ((2 : Nat) : Int) = 2 from rfl]
      go_wp2_with fail
      go_ret
      exact ⟨rfl, hT⟩

set_option maxRecDepth 1000000 in
set_option maxHeartbeats 2000000 in
theorem bits_nil (K : Nat) (k : Int) (w : World) (h : w.cell? ⟨K, 1, none⟩ = some (.slice none 0 0)) :
    Calls Tryz.prog 68 #[.pointer (some ⟨K, 0, none⟩), .int .u64 k] w fun e w' => e = .returned (.bool true) ∧ w = w' := by
  go_enter Tryz.func68, Tryz.ntmps68
  go_wp2_with fail
  go_loop [19] (fun i => i = .int .i64 0) (fun _ => 0)
  case atStart => rfl
  case round =>
    subst hrel
    go_wp2_with fail
    go_loop [44] (fun i => i = .int .i64 0) (fun _ => 0)
    case atStart => rfl
    case round =>
      subst hrel
      go_wp2_with fail
      go_loop [77] (fun i => i = .int .i64 0) (fun _ => 0)
      case atStart => rfl
      case round =>
        subst hrel
        go_wp2_with fail
        go_ret
        exact ⟨rfl, rfl⟩
end Go.Proofs.YtnjjcngggdankaaGreatDoor
