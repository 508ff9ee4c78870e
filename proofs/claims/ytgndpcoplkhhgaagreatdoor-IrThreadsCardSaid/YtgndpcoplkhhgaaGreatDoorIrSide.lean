/- On which side it goes on, where an instruction may stand, and where an end leads. -/
import Derived.Test.YtgndpcoplkhhgaaGreatDoorRows
import Derived.Test.YtgndpcoplkhhgaaGreatDoorIrLeaf
import Derived.Test.YtgndpcoplkhhgaaGreatDoorTypMade
import Derived.LoopTactic
import Derived.LoopN
import Derived.Deep.LoopGhost
import Derived.WalkKit
import Derived.WalkSpells
import Derived.WalkLawsBesides
import Derived.Lib.Hide
namespace Go.Proofs.YtgndpcoplkhhgaaGreatDoor
open Go.RowKit
set_option maxRecDepth 100000
attribute [local go_sem ↓] bld_eq bls_eq

set_option maxHeartbeats 4000000 in
theorem behind_any (i : In) (on : Nat) (w : World) : Calls Tryz.prog 24 #[i.val, .int .u8 (on : Int)] w fun e w' => e = .returned (.int .u8 (behI i.k on : Nat)) ∧ Below w.heap.size w w' := by
  obtain ⟨k, o, a, b, c, n⟩ := i
  show Calls _ _ #[.agg #[.int .u8 k, .int .u8 o, .int .i64 a, .int .i64 b, .int .i64 c, .int .i64 n], .int .u8 (on : Int)] _ _
  obtain ⟨p0, p1, p2, p3, p4, p5⟩ := own6 (MapKept.heap_alloc w (.cells #[.int .u8 k, .int .u8 o, .int .i64 a, .int .i64 b, .int .i64 c, .int .i64 n] 52)).1
  have hb := Lib.hid (below_box w (.cells #[.int .u8 k, .int .u8 o, .int .i64 a, .int .i64 b, .int .i64 c, .int .i64 n] 52))
  have hk : k = 13 ∨ k = 14 ∨ ((k == 13) = false ∧ (k == 14) = false) := by
    by_cases h : k = 13 ∨ k = 14
    · rcases h with rfl | rfl <;> simp
    · simp only [not_or] at h; simp only [beq_eq_false_iff_ne, ne_eq]; simp [h]
  rcases hk with rfl | rfl | ⟨h1, h2⟩
  all_goals
    go_enter Tryz.func24, Tryz.ntmps24
    go_wp2_with fail
    go_ret
    refine ⟨?_, hb.out⟩
    first | rfl | (simp only [beq_eq_false_iff_ne, ne_eq] at *; simp [behI, *])
set_option maxHeartbeats 4000000 in
theorem insSide_any (k : Int) (w : World) : Calls Tryz.prog 26 #[.int .u8 k] w fun e w' => e = .returned (.int .u8 (sideK k : Nat)) ∧ w = w' := by
  have hk : k = 7 ∨ k = 8 ∨ k = 9 ∨ k = 10 ∨ k = 11 ∨ k = 14 ∨ k = 13 ∨ ((k == 7) = false ∧ (k == 8) = false ∧ (k == 9) = false ∧ (k == 10) = false ∧ (k == 11) = false ∧ (k == 14) = false ∧ (k == 13) = false) := by
    by_cases h : k = 7 ∨ k = 8 ∨ k = 9 ∨ k = 10 ∨ k = 11 ∨ k = 14 ∨ k = 13
    · rcases h with rfl | rfl | rfl | rfl | rfl | rfl | rfl <;> simp
    · simp only [not_or] at h; simp only [beq_eq_false_iff_ne, ne_eq]; simp [h]
  rcases hk with rfl | rfl | rfl | rfl | rfl | rfl | rfl | ⟨h1, h2, h3, h4, h5, h6, h7⟩
  all_goals
    go_enter Tryz.func26, Tryz.ntmps26
    go_wp2_with fail
    go_ret
    first | exact ⟨rfl, rfl⟩ | (refine ⟨?_, rfl⟩; simp only [beq_eq_false_iff_ne, ne_eq] at *; simp [sideK, *])
/-- Numbers in a row of their own. -/
def Ints (w : World) (H : Nat) (s : Value) (l : List Int) : Prop := ∃ ao cap, s = .slice ao l.length cap ∧ (l = [] ∨ ∃ g, ao = some ⟨g, 0, none⟩ ∧ H ≤ g ∧ g < w.heap.size ∧ ∀ (j : Nat) y, l[j]? = some y → w.cell? ⟨g, j, none⟩ = some (.int .i64 y))
theorem ints_of {w W1 : World} (h : Below w.heap.size w W1) (us : List Value) (l : List Int) (hu : us = l.map fun y => .int .i64 y) (_ : l ≠ []) (hl : l.length = us.length) (g n : Nat) (hg : g = W1.heap.size) (hn : n = us.length) :
    Ints (W1.alloc (.cells us.toArray 3)) w.heap.size (.slice (some ⟨g, 0, none⟩) n n) l ∧ Below w.heap.size w (W1.alloc (.cells us.toArray 3)) := by
  subst hg hn
  refine ⟨⟨_, us.length, by rw [← hl], .inr ⟨_, rfl, h.size, by simp, fun j y hy => ?_⟩⟩, h.alloc h.size _⟩
  rw [Lib.cell_of_heap (MapKept.heap_alloc W1 (.cells us.toArray 3)).1]
  subst hu
  simp [hy]
/-- What next answers. -/
def NextE (b : Bk) (w : World) (e : Ending) (w' : World) : Prop := ∃ s, e = .returned s ∧ Ints w' w.heap.size s (nextL b) ∧ Below w.heap.size w w'
set_option maxHeartbeats 4000000 in
theorem next_any (b : Bk) (w : World) (hv : ∃ ao n cap, b.iv = .slice ao n cap) : Calls Tryz.prog 25 #[.agg #[b.iv, .int .u8 b.last, .int .i64 b.reg, .int .i64 b.yes, .int .i64 b.no]] w (NextE b w) := by
  obtain ⟨ao, n, cap, eiv⟩ := hv
  obtain ⟨iv, ins, last, reg, yes, no⟩ := b
  simp only at *
  subst eiv
  obtain ⟨p0, p1, p2, p3, p4⟩ := own5 (MapKept.heap_alloc w (.cells #[.slice ao n cap, .int .u8 last, .int .i64 reg, .int .i64 yes, .int .i64 no] 48)).1
  have hb := Lib.hid (below_box w (.cells #[.slice ao n cap, .int .u8 last, .int .i64 reg, .int .i64 yes, .int .i64 no] 48))
  have e1 := bls_of 34 3 1 1 #[(0, .int .i64 yes)] #[.int .i64 yes] (by kernel_rfl) (by kernel_rfl) (by kernel_rfl) (by decide) (by decide) (by kernel_rfl) (by kernel_rfl) (w.alloc (.cells #[.slice ao n cap, .int .u8 last, .int .i64 reg, .int .i64 yes, .int .i64 no] 48))
  have e2 := bls_of 34 3 2 1 #[(0, .int .i64 yes), (1, .int .i64 no)] #[.int .i64 yes, .int .i64 no] (by kernel_rfl) (by kernel_rfl) (by kernel_rfl) (by decide) (by decide) (by kernel_rfl) (by kernel_rfl) (w.alloc (.cells #[.slice ao n cap, .int .u8 last, .int .i64 reg, .int .i64 yes, .int .i64 no] 48))
  have q1 := Lib.hid (ints_of hb.out (.int .i64 yes :: []) [yes] (by simp) (by simp) rfl (w.heap.size + 1) 1 (by simp) rfl)
  have q2 := Lib.hid (ints_of hb.out (.int .i64 yes :: .int .i64 no :: []) [yes, no] (by simp) (by simp) rfl (w.heap.size + 1) 2 (by simp) rfl)
  have hk : last = 1 ∨ last = 2 ∨ ((last == 1) = false ∧ (last == 2) = false) := by
    by_cases h : last = 1 ∨ last = 2
    · rcases h with rfl | rfl <;> simp
    · simp only [not_or] at h; simp only [beq_eq_false_iff_ne, ne_eq]; simp [h]
  rcases hk with rfl | rfl | ⟨h1, h2⟩
  · clear e2 q2
    go_enter Tryz.func25, Tryz.ntmps25
    go_wp2_with fail
    go_ret
    exact ⟨_, rfl, q1.out⟩
  · clear e1 q1
    go_enter Tryz.func25, Tryz.ntmps25
    go_wp2_with fail
    go_ret
    exact ⟨_, rfl, q2.out⟩
  · clear e1 q1 e2 q2
    go_enter Tryz.func25, Tryz.ntmps25
    go_wp2_with fail
    go_ret
    refine ⟨_, rfl, ⟨none, 0, ?_, .inl ?_⟩, hb.out⟩ <;> (simp only [beq_eq_false_iff_ne, ne_eq] at *; simp [nextL, *])
end Go.Proofs.YtgndpcoplkhhgaaGreatDoor
