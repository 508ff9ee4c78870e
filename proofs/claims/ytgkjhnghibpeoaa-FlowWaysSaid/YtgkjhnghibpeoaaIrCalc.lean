/- What a checker says of operations, of sites, of ends. -/
import Derived.Test.YtgkjhnghibpeoaaRows
import Derived.Test.YtgkjhnghibpeoaaIrFit
import Derived.Test.YtgkjhnghibpeoaaIrSizes
import Derived.LoopTactic
import Derived.LoopN
import Derived.Deep.LoopGhost
import Derived.WalkKit
import Derived.WalkSpells
import Derived.WalkLawsBesides
import Derived.Lib.Hide
import Derived.Deep.QuietTactic
import Derived.BigQuiet
namespace Go.Proofs.Ytgkjhnghibpeoaa
open Go.RowKit
set_option maxRecDepth 100000
attribute [local go_sem ↓] bld_eq bls_eq

theorem bytes_list (s : ByteArray) : s.toList = s.data.toList := ByteArray.toList_eq s
theorem calcNm_emp (k : Int) : (calcNm k).toList.isEmpty = !inB k 1 14 := by
  rw [bytes_list]
  by_cases h : k = 1 ∨ k = 2 ∨ k = 3 ∨ k = 4 ∨ k = 5 ∨ k = 6 ∨ k = 7 ∨ k = 8 ∨ k = 9 ∨ k = 10 ∨ k = 11 ∨ k = 12 ∨ k = 13 ∨ k = 14
  · rcases h with rfl | rfl | rfl | rfl | rfl | rfl | rfl | rfl | rfl | rfl | rfl | rfl | rfl | rfl <;> rfl
  · simp only [not_or] at h
    have e : inB k 1 14 = false := by unfold inB; rw [Bool.and_eq_false_iff]; simp only [decide_eq_false_iff_not]; omega
    rw [e]
    simp [calcNm, h]
theorem insNm_emp (k : Int) : (insNm k).toList.isEmpty = !inB k 1 14 := by
  rw [bytes_list]
  by_cases h : k = 1 ∨ k = 2 ∨ k = 3 ∨ k = 4 ∨ k = 5 ∨ k = 6 ∨ k = 7 ∨ k = 8 ∨ k = 9 ∨ k = 10 ∨ k = 11 ∨ k = 12 ∨ k = 13 ∨ k = 14
  · rcases h with rfl | rfl | rfl | rfl | rfl | rfl | rfl | rfl | rfl | rfl | rfl | rfl | rfl | rfl <;> rfl
  · simp only [not_or] at h
    have e : inB k 1 14 = false := by unfold inB; rw [Bool.and_eq_false_iff]; simp only [decide_eq_false_iff_not]; omega
    rw [e]
    simp [insNm, h]
theorem lastNm_emp (k : Int) : (lastNm k).toList.isEmpty = !inB k 1 3 := by
  rw [bytes_list]
  by_cases h : k = 1 ∨ k = 2 ∨ k = 3
  · rcases h with rfl | rfl | rfl <;> rfl
  · simp only [not_or] at h
    have e : inB k 1 3 = false := by unfold inB; rw [Bool.and_eq_false_iff]; simp only [decide_eq_false_iff_not]; omega
    rw [e]
    simp [lastNm, h]

set_option maxHeartbeats 8000000 in
theorem calc_any (B c m : Nat) (g : Gr) (W : Int) (M : List Bool) (i : In) (w : World) (h : CkAt w B c m g W M) (ha : regB g.refs i.a = true) (hb : regB g.refs i.b = true) (hc : regB g.refs i.c = true) :
    Calls Try.prog 50 #[.pointer (some ⟨c, 0, none⟩), .agg #[.int .u8 i.k, .int .u8 i.o, .int .i64 i.a, .int .i64 i.b, .int .i64 i.c, .int .i64 i.n]] w fun e w' => e = .returned (.bool (calcB g.refs i)) ∧ Below w.heap.size w w' := by
  obtain ⟨b0, off, cap, er, hb0⟩ := regs_form h.here ha
  obtain ⟨na, ea, la⟩ := reg_nat ha
  obtain ⟨nb, eb, lb⟩ := reg_nat hb
  obtain ⟨nc, ec, lc⟩ := reg_nat hc
  have ta := h.here.rlies.bit er na la
  have tb := h.here.rlies.bit er nb lb
  have tc := h.here.rlies.bit er nc lc
  have hr : calcB g.refs i = (inB i.o 1 14 && (!refB g.refs i.a && ((refB g.refs i.b == refB g.refs i.c) && (!refB g.refs i.b || (decide (i.o = 11) || decide (i.o = 12)))))) := rfl
  have hq := h.box
  rw [er] at hq
  obtain ⟨q0, q1, q2, q3, q4⟩ := own5 hq
  have hlc := h.lt.1
  have hlb : b0 < w.heap.size := by have := h.base.2.2.2; omega
  obtain ⟨k, op, a, b, cc, n⟩ := i
  simp only at *
  subst ea eb ec
  obtain ⟨NR, hNR⟩ : ∃ N, N = g.refs.length := ⟨_, rfl⟩
  rw [← hNR] at q0 la lb lc
  have hroom : NR ≤ 140737488351232 := by rw [hNR]; exact h.here.rlies.room
  generalize hxa : refB g.refs (na : Int) = xa at ta hr
  generalize hxb : refB g.refs (nb : Int) = xb at tb hr
  generalize hxc : refB g.refs (nc : Int) = xc at tc hr
  have hem := calcNm_emp op
  generalize hy : inB op 1 14 = y at hr hem
  have HCN := Lib.hid (fun w => calcName_any op w)
  generalize calcNm op = nm at HCN hem
  have HR := Lib.hid hr
  clear h hr hq er hNR ha hb hc hxa hxb hxc hy
  cases y
  · go_enter Try.func50, Try.ntmps50
    go_wp2_with fail
    go_quiet ((go_at_call 54; exact Calls.quiet_of_same ((HCN.out _).mono fun e w1 hh => ⟨hh.1, hh.2.symm⟩)))
    go_wp2_with fail
    go_ret
    exact ⟨by rw [HR.out]; rfl, below_drewN (below_box w _) _⟩
  cases xa
  rotate_left
  · go_enter Try.func50, Try.ntmps50
    go_wp2_with fail
    go_quiet ((go_at_call 54; exact Calls.quiet_of_same ((HCN.out _).mono fun e w1 hh => ⟨hh.1, hh.2.symm⟩)))
    go_wp2_with fail
    go_ret
    exact ⟨by rw [HR.out]; rfl, below_drewN (below_box w _) _⟩
  cases xb <;> cases xc
  case false.true => 
    go_enter Try.func50, Try.ntmps50
    go_wp2_with fail
    go_quiet ((go_at_call 54; exact Calls.quiet_of_same ((HCN.out _).mono fun e w1 hh => ⟨hh.1, hh.2.symm⟩)))
    go_wp2_with fail
    go_ret
    exact ⟨by rw [HR.out]; rfl, below_drewN (below_box w _) _⟩
  case true.false => 
    go_enter Try.func50, Try.ntmps50
    go_wp2_with fail
    go_quiet ((go_at_call 54; exact Calls.quiet_of_same ((HCN.out _).mono fun e w1 hh => ⟨hh.1, hh.2.symm⟩)))
    go_wp2_with fail
    go_ret
    exact ⟨by rw [HR.out]; rfl, below_drewN (below_box w _) _⟩
  case false.false => 
    go_enter Try.func50, Try.ntmps50
    go_wp2_with fail
    go_quiet ((go_at_call 54; exact Calls.quiet_of_same ((HCN.out _).mono fun e w1 hh => ⟨hh.1, hh.2.symm⟩)))
    go_wp2_with fail
    go_quiet (fail)
    go_wp2_with fail
    go_ret
    exact ⟨by rw [HR.out]; rfl, below_drewN (below_drewN (below_box w _) _) _⟩
  by_cases h11 : op = 11
  · subst h11
    go_enter Try.func50, Try.ntmps50
    go_wp2_with fail
    go_quiet ((go_at_call 54; exact Calls.quiet_of_same ((HCN.out _).mono fun e w1 hh => ⟨hh.1, hh.2.symm⟩)))
    go_wp2_with fail
    go_quiet (fail)
    go_wp2_with fail
    go_ret
    exact ⟨by rw [HR.out]; rfl, below_drewN (below_drewN (below_box w _) _) _⟩
  by_cases h12 : op = 12
  · subst h12
    go_enter Try.func50, Try.ntmps50
    go_wp2_with fail
    go_quiet ((go_at_call 54; exact Calls.quiet_of_same ((HCN.out _).mono fun e w1 hh => ⟨hh.1, hh.2.symm⟩)))
    go_wp2_with fail
    go_quiet (fail)
    go_wp2_with fail
    go_ret
    exact ⟨by rw [HR.out]; rfl, below_drewN (below_drewN (below_box w _) _) _⟩
  have b11 : (op == 11) = false := by simpa using h11
  have b12 : (op == 12) = false := by simpa using h12
  rw [decide_eq_false h11, decide_eq_false h12] at HR
  clear h11 h12
  go_enter Try.func50, Try.ntmps50
  go_wp2_with fail
  go_quiet ((go_at_call 54; exact Calls.quiet_of_same ((HCN.out _).mono fun e w1 hh => ⟨hh.1, hh.2.symm⟩)))
  go_wp2_with fail
  go_quiet (fail)
  go_wp2_with fail
  go_ret
  exact ⟨by rw [HR.out]; rfl, below_drewN (below_drewN (below_box w _) _) _⟩

set_option maxHeartbeats 2000000 in
theorem block_any (B c m : Nat) (g : Gr) (W : Int) (M : List Bool) (k : Int) (w : World) (h : CkAt w B c m g W M) :
    Calls Try.prog 53 #[.pointer (some ⟨c, 0, none⟩), .int .i64 k] w fun e w' => e = .returned (.bool (blkB g.blocks.length k)) ∧ w = w' := by
  obtain ⟨ao, cap, eb, -, -⟩ := h.here.blies.form
  have hq := h.box
  rw [eb] at hq
  obtain ⟨q0, q1, q2, q3, q4⟩ := own5 hq
  have hr : blkB g.blocks.length k = (decide (0 ≤ k) && decide (k < g.blocks.length)) := rfl
  generalize g.blocks.length = nb at *
  clear h hq
  by_cases h1 : 0 ≤ k <;> by_cases h2 : k < nb
  all_goals
    first | rw [decide_eq_true h1] at hr | rw [decide_eq_false h1] at hr
    first | rw [decide_eq_true h2] at hr | rw [decide_eq_false h2] at hr
    have HR := Lib.hid hr
    clear hr
    go_enter Try.func53, Try.ntmps53
    go_wp2_with fail
    go_ret
    exact ⟨by rw [HR.out]; rfl, rfl⟩

/-- A checker whose site has got its mark. -/
theorem CkAt.marked {w : World} {B c m : Nat} {g : Gr} {W : Int} {M : List Bool} (h : CkAt w B c m g W M) (k : Nat) : CkAt (w.setCell ⟨m, k, none⟩ (.bool true)) B c m g W (M.set k true) := by
  have hb : ∀ j, j ≠ m → (w.setCell ⟨m, k, none⟩ (.bool true)).heap[j]? = w.heap[j]? := fun j hj => Below.heap_setCell _ _ _ _ hj
  have hbel : Below B w (w.setCell ⟨m, k, none⟩ (.bool true)) := (Below.refl B w).setCell h.base.2.1 _
  refine ⟨by rw [hb c h.base.2.2.1, List.length_set]; exact h.box, ?_, h.here.keeps hbel, ⟨h.base.1, h.base.2.1, h.base.2.2.1, Nat.le_trans h.base.2.2.2 hbel.size⟩, h.words, by rw [List.length_set]; exact h.many⟩
  simp only [World.setCell, Array.getElem?_modify, if_true, h.made]
  simp

def mkM (M : List Bool) (s : Int) : List Bool := if makesB M s = true then M.set s.toNat true else M
theorem mkM_no {M : List Bool} {s : Int} (h : makesB M s = false) : mkM M s = M := by unfold mkM; rw [h]; rfl
theorem mkM_yes {M : List Bool} {s : Int} (h : makesB M s = true) : mkM M s = M.set s.toNat true := by unfold mkM; rw [h]; rfl
set_option maxHeartbeats 4000000 in
theorem makes_any (B c m : Nat) (g : Gr) (W : Int) (M : List Bool) (s : Int) (w : World) (h : CkAt w B c m g W M) :
    Calls Try.prog 52 #[.pointer (some ⟨c, 0, none⟩), .int .i64 s] w fun e w' => e = .returned (.bool (makesB M s)) ∧ CkAt w' B c m g W (mkM M s) ∧ Aside m w w' := by
  obtain ⟨q0, q1, q2, q3, q4⟩ := own5 h.box
  have hr : makesB M s = (decide (0 ≤ s) && (decide (s < M.length) && !refB M s)) := rfl
  have hmany := h.many
  have HF := Lib.hid (fun (k : Nat) => Lib.frozen_of_heap h.made k)
  have hm := h.lt.2
  have H := Lib.hid h
  have HM := Lib.hid (fun (k : Nat) => h.marked k)
  have hcell : ∀ k : Nat, k < M.length → w.cell? ⟨m, k, none⟩ = some (.bool (refB M (k : Int))) := by
    intro k hk
    rw [Lib.cell_of_heap h.made]
    unfold refB
    rw [Int.toNat_natCast]
    simp [hk]
  obtain ⟨N, hN⟩ : ∃ N, N = M.length := ⟨_, rfl⟩
  rw [← hN] at q4 hr hcell hmany
  clear h hN
  by_cases h1 : 0 ≤ s
  rotate_left
  · rw [decide_eq_false h1] at hr
    have HR := Lib.hid hr
    clear hr hcell
    go_enter Try.func52, Try.ntmps52
    go_wp2_with fail
    go_ret
    exact ⟨by rw [HR.out]; rfl, by rw [mkM_no (HR.out.trans rfl)]; exact H.out, Aside.refl _ _⟩
  obtain ⟨k, rfl⟩ : ∃ k : Nat, s = (k : Int) := ⟨s.toNat, by omega⟩
  by_cases h2 : (k : Int) < N
  rotate_left
  · rw [decide_eq_true h1, decide_eq_false h2] at hr
    have HR := Lib.hid hr
    clear hr hcell
    go_enter Try.func52, Try.ntmps52
    go_wp2_with fail
    go_ret
    exact ⟨by rw [HR.out]; rfl, by rw [mkM_no (HR.out.trans rfl)]; exact H.out, Aside.refl _ _⟩
  have hkN : k < N := by omega
  have hc := hcell k hkN
  have hfz := HF.out k
  rw [decide_eq_true h1, decide_eq_true h2] at hr
  generalize refB M (k : Int) = x at hr hc
  have HR := Lib.hid hr
  clear hr hcell
  cases x
  · go_enter Try.func52, Try.ntmps52
    go_wp2_with fail
    go_ret
    exact ⟨by rw [HR.out]; rfl, by rw [mkM_yes (HR.out.trans rfl)]; exact HM.out k, (Aside.refl _ _).set _ _⟩
  · go_enter Try.func52, Try.ntmps52
    go_wp2_with fail
    go_ret
    exact ⟨by rw [HR.out]; rfl, by rw [mkM_no (HR.out.trans rfl)]; exact H.out, Aside.refl _ _⟩
end Go.Proofs.Ytgkjhnghibpeoaa
