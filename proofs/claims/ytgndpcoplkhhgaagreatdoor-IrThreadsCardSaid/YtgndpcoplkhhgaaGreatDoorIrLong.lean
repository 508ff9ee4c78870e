/- Whether a graph has too many instructions, and the sizes of one. -/
import Derived.Test.YtgndpcoplkhhgaaGreatDoorRows
import Derived.Test.YtgndpcoplkhhgaaGreatDoorIrSide
import Derived.Test.YtgndpcoplkhhgaaGreatDoorTypMade
import Derived.LoopTactic
import Derived.LoopN
import Derived.Deep.LoopGhost
import Derived.WalkKit
import Derived.WalkSpells
import Derived.WalkLawsBesides
import Derived.Lib.Hide

namespace Go.Proofs.YtgndpcoplkhhgaaGreatDoor
open Go.RowKit
set_option maxRecDepth 100000
attribute [local go_sem ↓] bld_eq bls_eq

set_option maxHeartbeats 8000000 in
theorem tooLong_any (B : Nat) (g : Gr) (w : World) (hI : GIn w B g) (hBw : B ≤ w.heap.size) :
    Calls Tryz.prog 21 #[.agg #[g.rv, .int .i64 g.sites, g.bv]] w fun e w' => e = .returned (.bool (longB 8192 g.blocks)) ∧ Below w.heap.size w w' := by
  obtain ⟨Y, hY⟩ : ∃ Y, Y = longB 8192 g.blocks := ⟨_, rfl⟩
  rw [← hY]
  have r2 := hI.blies.room
  obtain ⟨ro, rc, er, hrl, -⟩ := hI.rlies.form
  obtain ⟨bo, bcp, eb, hbl, hbg⟩ := hI.blies.form
  have HBL := Lib.hid hI.blies
  have HBI := Lib.hid hI.blocks
  clear hI
  obtain ⟨rv, refs, sites, bv, blocks⟩ := g
  simp only at *
  subst er eb
  obtain ⟨N1, hN1⟩ : ∃ N, N = refs.length := ⟨_, rfl⟩
  obtain ⟨N2, hN2⟩ : ∃ N, N = blocks.length := ⟨_, rfl⟩
  rw [← hN1, ← hN2]
  rw [← hN2] at hbl r2 hbg HBL
  obtain ⟨W0, hW0⟩ : ∃ W0, W0 = w.alloc (.cells #[.slice ro N1 rc, .int .i64 sites, .slice bo N2 bcp] 39) := ⟨_, rfl⟩
  have hB0 : Below w.heap.size w W0 := by rw [hW0]; exact below_box w _
  have hlt0 : w.heap.size + 1 = W0.heap.size := by rw [hW0]; simp
  have hO : W0.heap[w.heap.size]? = some (.cells #[.slice ro N1 rc, .int .i64 sites, .slice bo N2 bcp] 39 (0, 0)) := by rw [hW0]; exact (MapKept.heap_alloc _ _).1
  obtain ⟨q0, q1, q2⟩ := own3 hO
  rw [hW0] at q0 q1 q2
  have HN2 := Lib.hid hN2
  have HG2 := Lib.hid hbg
  have HB0 := Lib.hid hB0
  have HZ0 := Lib.hid hlt0
  have HY := Lib.hid hY
  have HW0 := Lib.hid hW0
  clear hN1 hN2 hbg hB0 hlt0 hO hW0 hY hrl
  go_enter Tryz.func21, Tryz.ntmps21
  go_wp2_with fail
  rw [← HW0.out]
  clear q0 q1 q2
  go_loopw [3, 9] (fun m q wr => ∃ k : Nat, k ≤ N2 ∧ q = .int .i64 k ∧ ∃ r : Int, m = .int .i64 r ∧ 0 ≤ r ∧ r ≤ 8192 ∧ Hid (Y = longB r (blocks.drop k)) ∧ Below W0.heap.size W0 wr) (fun _ q _ => N2 - (intOf q).toNat)
  case atStart => exact ⟨0, by omega, rfl, 8192, rfl, by omega, by omega, HY, Below.refl _ _⟩
  case round =>
    obtain ⟨k, hkN, rfl, r, rfl, hr0, hr1, HD, hB⟩ := hrel
    have hsr := hB.size
    have hBw' : Below w.heap.size w wr := HB0.out.trans (hB.mono (by have := HZ0.out; omega))
    by_cases hlt2 : k < N2
    · obtain ⟨g, off, rfl, hg⟩ := HG2.out (by omega)
      have hka : k < blocks.length := by rw [← HN2.out]; exact hlt2
      have hat := ((HBL.out.below (hBw'.mono hBw)).at rfl k hka).2
      have ha := HBI.out _ (List.getElem_mem hka)
      have hd := HD.out
      rw [List.drop_eq_getElem_cons hka] at hd
      generalize blocks[k] = a at hat ha hd
      have hgs : g < wr.heap.size := by have := HZ0.out; omega
      obtain ⟨p0, p1, p2, p3, p4⟩ := bc hat
      obtain ⟨ao, ac, ea, -⟩ := ha.lies.form
      have hra := ha.lies.room
      rw [ea] at p0
      rw [longB] at hd
      obtain ⟨NA, hNA⟩ : ∃ N, N = a.ins.length := ⟨_, rfl⟩
      rw [← hNA] at p0 hra hd
      by_cases hlo : r < (NA : Int)
      · rw [if_pos hlo] at hd
        have HD2 := Lib.hid hd
        have HB9 := Lib.hid (hBw'.alloc (o := .cells #[.slice ao NA ac, .int .u8 a.last, .int .i64 a.reg, .int .i64 a.yes, .int .i64 a.no] 48) (by have := hBw'.size; omega))
        clear hka hat ha ea hB hBw' hd HD hNA
        go_wp2_with fail
        go_ret
        exact ⟨by rw [HD2.out]; rfl, HB9.out⟩
      · rw [if_neg hlo] at hd
        have HD2 := Lib.hid hd
        have HB := Lib.hid (hB.alloc (o := .cells #[.slice ao NA ac, .int .u8 a.last, .int .i64 a.reg, .int .i64 a.yes, .int .i64 a.no] 48) hsr)
        clear hka hat ha ea hB hBw' hd HD hNA
        go_wp2_with fail
        go_roundw
        case rel => exact ⟨k + 1, by omega, by go_num, r - (NA : Int), by go_num, by omega, by omega, HD2, HB.out⟩
        case measure => simp [intOf]; omega
    · have hd := HD.out
      rw [List.drop_eq_nil_of_le (by rw [← HN2.out]; omega)] at hd
      have HD2 := Lib.hid (show Y = false from hd)
      have HB9 := Lib.hid hBw'
      clear hB hBw' hd HD
      go_wp2_with fail
      go_ret
      exact ⟨by rw [HD2.out]; rfl, HB9.out⟩
end Go.Proofs.YtgndpcoplkhhgaaGreatDoor
