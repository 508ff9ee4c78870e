/- Whether an instruction, and an end, may be by itself. -/
import Derived.Test.YtgndpcoplkhhgaaGreatDoorRows
import Derived.Test.YtgndpcoplkhhgaaGreatDoorIrFits
import Derived.Test.YtgndpcoplkhhgaaGreatDoorTypMade
import Derived.LoopTactic
import Derived.LoopN
import Derived.Deep.LoopGhost
import Derived.WalkKit
import Derived.WalkSpells
import Derived.WalkLawsBesides
import Derived.Lib.Hide
import Derived.Deep.QuietTactic
import Derived.BigQuiet
namespace Go.Proofs.YtgndpcoplkhhgaaGreatDoor
open Go.RowKit
set_option maxRecDepth 100000
attribute [local go_sem ↓] bld_eq bls_eq

set_option maxHeartbeats 4000000 in
theorem ins_any (B c m : Nat) (g : Gr) (W : Int) (M : List Bool) (i : In) (w : World) (h : CkAt w B c m g W M) :
    Calls Tryz.prog 22 #[.pointer (some ⟨c, 0, none⟩), .agg #[.int .u8 i.k, .int .u8 i.o, .int .i64 i.a, .int .i64 i.b, .int .i64 i.c, .int .i64 i.n]] w (FitE B c m g W (insB g.refs W M i) (insM g.refs W M i) w) := by
  obtain ⟨W1, hW1⟩ : ∃ W1, W1 = w.alloc (.cells #[.int .u8 i.k, .int .u8 i.o, .int .i64 i.a, .int .i64 i.b, .int .i64 i.c, .int .i64 i.n] 52) := ⟨_, rfl⟩
  have hb1 : Below w.heap.size w W1 := by rw [hW1]; exact below_box w _
  have hz1 : W1.heap.size = w.heap.size + 1 := by rw [hW1]; simp
  have h1 := h.keeps hb1
  have hO : W1.heap[w.heap.size]? = some (.cells #[.int .u8 i.k, .int .u8 i.o, .int .i64 i.a, .int .i64 i.b, .int .i64 i.c, .int .i64 i.n] 52 (0, 0)) := by rw [hW1]; exact (MapKept.heap_alloc _ _).1
  have HIL := Lib.hid (insLine_any i.k W1)
  have HSH := Lib.hid (shaped_any B c m g W M i (insHas i.k) W1 h1 (letters_ins i.k).1 (letters_ins i.k).2)
  have HFI := Lib.hid (fun (u : World) (hu : Below W1.heap.size W1 u) => fits_any B c m g W M i u (h1.keeps hu))
  have HCK := Lib.hid (fun (u : World) (hu : Below W1.heap.size W1 u) => h1.keeps hu)
  have HO := Lib.hid (fun (u : World) (hu : Below W1.heap.size W1 u) => own6 ((hu.block _ (by omega)).trans hO))
  obtain ⟨p0, p1, p2, p3, p4, p5⟩ := own6 hO
  have hem := insNm_emp i.k
  have hr : insB g.refs W M i = (inB i.k 1 14 && (shaped g.refs i (insHas i.k) && fitsB g.refs W M i)) := rfl
  have hyk : inB i.k 1 14 = true → 1 ≤ i.k ∧ i.k ≤ 14 := fun hh => by unfold inB at hh; simpa using hh
  generalize inB i.k 1 14 = y at hem hr hyk
  have HYK := Lib.hid hyk
  generalize hsb : shaped g.refs i (insHas i.k) = z at HSH HFI hr
  generalize insNm i.k = nm at HIL hem
  obtain ⟨F, hF⟩ : ∃ F, F = insB g.refs W M i := ⟨_, rfl⟩
  have HR := Lib.hid hr
  have HB := Lib.hid hb1
  have HW := Lib.hid hW1
  have HF := Lib.hid hF
  rw [hW1] at p0
  rw [← hF]
  clear h h1 hb1 hr hyk hsb hF hO hW1 p1 p2 p3 p4 p5
  cases y
  · have HN := Lib.hid (show F = false by rw [HF.out, HR.out]; rfl)
    go_enter Tryz.func22, Tryz.ntmps22
    go_wp2_with fail
    rw [← HW.out]
    refine HIL.out.mono ?_; rintro e w2 ⟨rfl, rfl⟩
    go_wp2_with fail
    go_ret
    exact ⟨by rw [HN.out]; rfl, by rw [insM_no (HF.out.symm.trans HN.out)]; exact HCK.out _ (Below.refl _ _), Aside.of HB.out⟩
  cases z
  · have HN := Lib.hid (show F = false by rw [HF.out, HR.out]; rfl)
    go_enter Tryz.func22, Tryz.ntmps22
    go_wp2_with fail
    rw [← HW.out]
    refine HIL.out.mono ?_; rintro e w2 ⟨rfl, rfl⟩
    obtain ⟨p0, p1, p2, p3, p4, p5⟩ := HO.out _ (Below.refl _ _)
    go_wp2_with fail
    refine HSH.out.mono ?_; rintro e w3 ⟨rfl, hb3⟩
    have HB3 := Lib.hid hb3
    clear hb3
    go_wp2_with fail
    go_ret
    exact ⟨by rw [HN.out]; rfl, by rw [insM_no (HF.out.symm.trans HN.out)]; exact HCK.out _ HB3.out, Aside.of (HB.out.trans (HB3.out.mono (by omega)))⟩
  have HEQ := Lib.hid (show insB g.refs W M i = fitsB g.refs W M i by rw [HR.out]; rfl)
  go_enter Tryz.func22, Tryz.ntmps22
  go_wp2_with fail
  rw [← HW.out]
  refine HIL.out.mono ?_; rintro e w2 ⟨rfl, rfl⟩
  obtain ⟨p0, p1, p2, p3, p4, p5⟩ := HO.out _ (Below.refl _ _)
  go_wp2_with fail
  refine HSH.out.mono ?_; rintro e w3 ⟨rfl, hb3⟩
  obtain ⟨p0, p1, p2, p3, p4, p5⟩ := HO.out w3 hb3
  have HFF := Lib.hid (HFI.out w3 hb3 (HYK.out (by first | rfl | trivial)) (by first | rfl | trivial))
  have HA3 := Lib.hid ((Aside.of (m := m) HB.out).trans (Aside.of hb3))
  clear hb3
  go_wp2_with fail
  refine HFF.out.mono ?_; rintro e w4 ⟨rfl, hc4, ha4⟩
  have HC4 := Lib.hid hc4
  have HA4 := Lib.hid (HA3.out.trans ha4)
  clear hc4 ha4
  go_wp2_with fail
  go_ret
  exact ⟨by rw [HF.out, HEQ.out]; rfl, by rw [insM_fit HEQ.out]; exact HC4.out, HA4.out⟩
end Go.Proofs.YtgndpcoplkhhgaaGreatDoor
