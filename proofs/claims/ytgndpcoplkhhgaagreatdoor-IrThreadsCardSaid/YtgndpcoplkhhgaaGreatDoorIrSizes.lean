/- Whether a graph is of the sizes that it may have. -/
import Derived.Test.YtgndpcoplkhhgaaGreatDoorRows
import Derived.Test.YtgndpcoplkhhgaaGreatDoorIrLong
import Derived.Test.YtgndpcoplkhhgaaGreatDoorTypMade
import Derived.LoopTactic
import Derived.LoopN
import Derived.Deep.LoopGhost
import Derived.WalkKit
import Derived.WalkSpells
import Derived.WalkLawsBesides
import Derived.Lib.Hide

namespace Go.Proofs.YtgndpcoplkhhgaaGreatDoor
open Go.RowKit
set_option maxRecDepth 100000
attribute [local go_sem ↓] bld_eq bls_eq

set_option maxHeartbeats 8000000 in
theorem checkSizes_any (B : Nat) (g : Gr) (w : World) (hI : GIn w B g) (hBw : B ≤ w.heap.size) :
    Calls Tryz.prog 12 #[.agg #[g.rv, .int .i64 g.sites, g.bv]] w fun e w' => e = .returned (.int .i64 (sizesE g)) ∧ Below w.heap.size w w' := by
  obtain ⟨Y, hY⟩ : ∃ Y, Y = sizesE g := ⟨_, rfl⟩
  rw [← hY]
  unfold sizesE at hY
  have r1 := hI.rlies.room
  have r2 := hI.blies.room
  have r3 := hI.sites
  obtain ⟨ro, rc, er, hrl, -⟩ := hI.rlies.form
  obtain ⟨bo, bcp, eb, hbl, -⟩ := hI.blies.form
  have HT := Lib.hid (fun (u : World) (hu : Below w.heap.size w u) => tooLong_any B g u (hI.keeps (hu.mono hBw)) (Nat.le_trans hBw hu.size))
  clear hI
  obtain ⟨rv, refs, sites, bv, blocks⟩ := g
  simp only at *
  subst er eb
  generalize longB 8192 blocks = LB at *
  obtain ⟨N1, hN1⟩ : ∃ N, N = refs.length := ⟨_, rfl⟩
  obtain ⟨N2, hN2⟩ : ∃ N, N = blocks.length := ⟨_, rfl⟩
  rw [← hN1, ← hN2] at HT hY
  rw [← hN1, ← hN2]
  rw [← hN1] at r1
  rw [← hN2] at r2
  obtain ⟨W0, hW0⟩ : ∃ W0, W0 = w.alloc (.cells #[.slice ro N1 rc, .int .i64 sites, .slice bo N2 bcp] 39) := ⟨_, rfl⟩
  have hB0 : Below w.heap.size w W0 := by rw [hW0]; exact below_box w _
  have hO : W0.heap[w.heap.size]? = some (.cells #[.slice ro N1 rc, .int .i64 sites, .slice bo N2 bcp] 39 (0, 0)) := by rw [hW0]; exact (MapKept.heap_alloc _ _).1
  have hsz : w.heap.size < W0.heap.size := by rw [hW0]; simp
  have HZ := Lib.hid hsz
  have HO := Lib.hid hO
  have HC := Lib.hid (HT.out W0 hB0)
  obtain ⟨q0, q1, q2⟩ := own3 hO
  rw [hW0] at q0 q1 q2
  have HB0 := Lib.hid hB0
  have HW0 := Lib.hid hW0
  clear hN1 hN2 hB0 hO hW0 HT hrl hbl hsz
  by_cases a1 : 1024 < N1
  · rw [if_pos (.inl a1)] at hY
    have HY := Lib.hid hY
    clear hY
    go_enter Tryz.func12, Tryz.ntmps12
    go_wp2_with fail
    go_ret
    exact ⟨by rw [HY.out]; rfl, by rw [← HW0.out]; exact HB0.out⟩
  by_cases a2 : 4096 < N2
  · rw [if_pos (.inr (.inl a2))] at hY
    have HY := Lib.hid hY
    clear hY
    go_enter Tryz.func12, Tryz.ntmps12
    go_wp2_with fail
    go_ret
    exact ⟨by rw [HY.out]; rfl, by rw [← HW0.out]; exact HB0.out⟩
  by_cases a3 : 8192 < sites
  · rw [if_pos (.inr (.inr a3))] at hY
    have HY := Lib.hid hY
    clear hY
    go_enter Tryz.func12, Tryz.ntmps12
    go_wp2_with fail
    go_ret
    exact ⟨by rw [HY.out]; rfl, by rw [← HW0.out]; exact HB0.out⟩
  rw [if_neg (by omega)] at hY
  have HY := Lib.hid hY
  clear hY
  go_enter Tryz.func12, Tryz.ntmps12
  go_wp2_with fail
  rw [← HW0.out]
  refine HC.out.mono ?_; rintro e w2 ⟨rfl, hb2⟩
  have HB2 := Lib.hid (HB0.out.trans (hb2.mono (Nat.le_of_lt HZ.out)))
  obtain ⟨q0, q1, q2⟩ := own3 ((hb2.block w.heap.size HZ.out).trans HO.out)
  have hz2 : w.heap.size < w2.heap.size := Nat.lt_of_lt_of_le HZ.out hb2.size
  clear hb2
  cases LB with
  | true =>
    go_wp2_with fail
    go_ret
    exact ⟨by rw [HY.out]; rfl, HB2.out⟩
  | false =>
    have hY := HY.out
    rw [if_neg (by decide)] at hY
    by_cases a4 : N2 = 0
    · rw [if_pos (.inl a4)] at hY
      subst a4
      have HY2 := Lib.hid hY
      clear hY HY
      go_wp2_with fail
      go_ret
      exact ⟨by rw [HY2.out]; rfl, HB2.out⟩
    · by_cases a5 : sites < 0
      · rw [if_pos (.inr a5)] at hY
        have HY2 := Lib.hid hY
        clear hY HY
        go_wp2_with fail
        go_ret
        exact ⟨by rw [HY2.out]; rfl, HB2.out⟩
      · rw [if_neg (by omega)] at hY
        have HY2 := Lib.hid hY
        have h4 : (((N2 : Nat) : Int) == 0) = false := by simp only [beq_eq_false_iff_ne, ne_eq]; omega
        clear hY HY
        go_wp2_with fail
        go_ret
        exact ⟨by rw [HY2.out]; rfl, HB2.out⟩
end Go.Proofs.YtgndpcoplkhhgaaGreatDoor
