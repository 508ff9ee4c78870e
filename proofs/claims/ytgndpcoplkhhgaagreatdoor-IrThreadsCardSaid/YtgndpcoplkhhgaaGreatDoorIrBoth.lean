/- The first block that may begin on both sides. -/
import Derived.Test.YtgndpcoplkhhgaaGreatDoorRows
import Derived.Test.YtgndpcoplkhhgaaGreatDoorIrFirst
import Derived.Test.YtgndpcoplkhhgaaGreatDoorTypMade
import Derived.LoopTactic
import Derived.LoopN
import Derived.Deep.LoopGhost
import Derived.WalkKit
import Derived.WalkSpells
import Derived.WalkLawsBesides
import Derived.Lib.Hide

namespace Go.Proofs.YtgndpcoplkhhgaaGreatDoor
open Go.RowKit
set_option maxRecDepth 100000
attribute [local go_sem ↓] bld_eq bls_eq

theorem bothT_cons (k : Nat) (s : Nat) (l : List Nat) : bothT k (s :: l) = if s = 3 then some k else bothT (k + 1) l := rfl
/-- A row of sides: the cell of the k-th. -/
theorem side_cell {w : World} {g : Nat} {l : List Nat} {T : TypeId} {fr : Nat × Nat} (h : w.heap[g]? = some (.cells (l.map fun (s : Nat) => Value.int .u8 (s : Int)).toArray T fr)) (k : Nat) (hk : k < l.length) : w.cell? ⟨g, k, none⟩ = some (.int .u8 ((l[k] : Nat) : Int)) := by
  rw [Lib.cell_of_heap h]
  simp [hk]
set_option maxHeartbeats 8000000 in
theorem firstOnBoth_any (g n : Nat) (l : List Nat) (T : TypeId) (fr : Nat × Nat) (w : World) (hg : w.heap[g]? = some (.cells (l.map fun (s : Nat) => Value.int .u8 (s : Int)).toArray T fr)) (hn : n = l.length) (hn2 : n ≤ 4096) :
    Calls Tryz.prog 16 #[.slice (some ⟨g, 0, none⟩) n n] w fun e w' => e = .returned (spotV ((bothT 0 l).map fun k => (k, 0))) ∧ Below w.heap.size w w' := by
  obtain ⟨Y, hY⟩ : ∃ Y, Y = bothT 0 l := ⟨_, rfl⟩
  rw [← hY]
  have HY := Lib.hid hY
  have HN := Lib.hid hn
  have hgs : g < w.heap.size := (Array.getElem?_eq_some_iff.1 hg).1
  obtain ⟨W0, hW0⟩ : ∃ W0, W0 = w.alloc (.cells #[.int .i64 0, .int .i64 0] 28) := ⟨_, rfl⟩
  have hB0 : Below w.heap.size w W0 := by rw [hW0]; exact below_box w _
  have hO : W0.heap[w.heap.size]? = some (.cells #[.int .i64 0, .int .i64 0] 28 (0, 0)) := by rw [hW0]; exact (MapKept.heap_alloc _ _).1
  have hsz : w.heap.size < W0.heap.size := by rw [hW0]; simp
  have HG := Lib.hid ((hB0.block g hgs).trans hg)
  have e0 := fun (x : Int) => bld_of 28 #[(0, .int .i64 x)] #[.int .i64 x, .int .i64 0] (by kernel_rfl)
  have e1 := bld_of 28 #[] #[.int .i64 0, .int .i64 0] (by kernel_rfl)
  have f0 := Lib.frozen_of_heap hO 0
  have f1 := Lib.frozen_of_heap hO 1
  obtain ⟨s0, s1⟩ := own2 hO
  have HO := Lib.hid hO
  have HB0 := Lib.hid hB0
  have HW0 := Lib.hid hW0
  clear hY hn hB0 hO hW0 hg
  go_enter Tryz.func16, Tryz.ntmps16
  go_wp2_with fail
  rw [← HW0.out]
  go_loopw [8] (fun q wr => ∃ k : Nat, k ≤ n ∧ q = .int .i64 k ∧ wr = W0 ∧ Hid (Y = bothT k (l.drop k))) (fun q _ => n - (intOf q).toNat)
  case atStart => exact ⟨0, by omega, rfl, rfl, HY⟩
  case round =>
    obtain ⟨k, hkN, rfl, rfl, HD⟩ := hrel
    by_cases hlt2 : k < n
    · have hka : k < l.length := by rw [← HN.out]; exact hlt2
      have hd := HD.out
      rw [List.drop_eq_getElem_cons hka, bothT_cons] at hd
      have p0 := side_cell HG.out k hka
      generalize l[k] = s at hd p0
      by_cases hs : s = 3
      · subst hs
        rw [if_pos rfl] at hd
        have HD2 := Lib.hid hd
        clear hd HD hka
        go_wp2_with fail
        refine bodyPost_ret (v := .tuple #[.agg #[.int .i64 (k : Int), .int .i64 0], .bool true]) (results_spot (p := 2) (u := 3) rfl _ _ w.heap.size _ _ _ rfl rfl (put2 HO.out _ _)) rfl ?_
        exact ⟨by rw [HD2.out]; rfl, (HB0.out.setCell (Nat.le_refl _) _).setCell (Nat.le_refl _) _⟩
      · rw [if_neg hs] at hd
        have HD2 := Lib.hid hd
        have hs2 : (((s : Nat) : Int) == 3) = false := by simp only [beq_eq_false_iff_ne, ne_eq]; omega
        clear hd HD hka hs
        go_wp2_with fail
        go_roundw
        case rel => exact ⟨k + 1, by omega, by go_num, by trivial, HD2⟩
        case measure => simp [intOf]; omega
    · have hd := HD.out
      rw [List.drop_eq_nil_of_le (by rw [← HN.out]; omega)] at hd
      have HD2 := Lib.hid (show Y = none from hd)
      clear hd HD
      go_wp2_with fail
      refine bodyPost_ret (v := .tuple #[.agg #[.int .i64 0, .int .i64 0], .bool false]) (results_spot (p := 2) (u := 3) rfl _ _ w.heap.size _ _ _ rfl rfl (put2 HO.out _ _)) rfl ?_
      exact ⟨by rw [HD2.out]; rfl, (HB0.out.setCell (Nat.le_refl _) _).setCell (Nat.le_refl _) _⟩
end Go.Proofs.YtgndpcoplkhhgaaGreatDoor
