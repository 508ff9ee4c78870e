/- What a checker says of operations, of sites, of ends. -/
import Derived.Test.YtgkjhnghibpeoaaDoorRows
import Derived.Test.YtgkjhnghibpeoaaDoorIrFit
import Derived.Test.YtgkjhnghibpeoaaDoorIrLeaf
import Derived.LoopTactic
import Derived.LoopN
import Derived.Deep.LoopGhost
import Derived.WalkKit
import Derived.WalkSpells
import Derived.WalkLawsBesides
import Derived.Lib.Hide
import Derived.Deep.QuietTactic
import Derived.BigQuiet
import Derived.Test.YtgkjhnghibpeoaaDoorParseOrder
import Derived.OrdersHeld
import Derived.Deep.RegionHeld
import Derived.Deep.DrawnRows
import Derived.RegionTactic
import Derived.Deep.RegionHeld3
namespace Go.Proofs.YtgkjhnghibpeoaaDoor
open Go.RowKit
set_option maxRecDepth 100000
attribute [local go_sem ↓] bld_eq bls_eq

theorem bytes_list (s : ByteArray) : s.toList = s.data.toList := ByteArray.toList_eq s
theorem calcNm_emp (k : Int) : (calcNm k).toList.isEmpty = !inB k 1 14 := by
  rw [bytes_list]
  by_cases h : k = 1 ∨ k = 2 ∨ k = 3 ∨ k = 4 ∨ k = 5 ∨ k = 6 ∨ k = 7 ∨ k = 8 ∨ k = 9 ∨ k = 10 ∨ k = 11 ∨ k = 12 ∨ k = 13 ∨ k = 14
  · rcases h with rfl | rfl | rfl | rfl | rfl | rfl | rfl | rfl | rfl | rfl | rfl | rfl | rfl | rfl <;> rfl
  · simp only [not_or] at h
    have e : inB k 1 14 = false := by unfold inB; rw [Bool.and_eq_false_iff]; simp only [decide_eq_false_iff_not]; omega
    rw [e]
    simp [calcNm, h]
theorem insNm_emp (k : Int) : (insNm k).toList.isEmpty = !inB k 1 14 := by
  rw [bytes_list]
  by_cases h : k = 1 ∨ k = 2 ∨ k = 3 ∨ k = 4 ∨ k = 5 ∨ k = 6 ∨ k = 7 ∨ k = 8 ∨ k = 9 ∨ k = 10 ∨ k = 11 ∨ k = 12 ∨ k = 13 ∨ k = 14
  · rcases h with rfl | rfl | rfl | rfl | rfl | rfl | rfl | rfl | rfl | rfl | rfl | rfl | rfl | rfl <;> rfl
  · simp only [not_or] at h
    have e : inB k 1 14 = false := by unfold inB; rw [Bool.and_eq_false_iff]; simp only [decide_eq_false_iff_not]; omega
    rw [e]
    simp [insNm, h]
theorem lastNm_emp (k : Int) : (lastNm k).toList.isEmpty = !inB k 1 3 := by
  rw [bytes_list]
  by_cases h : k = 1 ∨ k = 2 ∨ k = 3
  · rcases h with rfl | rfl | rfl <;> rfl
  · simp only [not_or] at h
    have e : inB k 1 3 = false := by unfold inB; rw [Bool.and_eq_false_iff]; simp only [decide_eq_false_iff_not]; omega
    rw [e]
    simp [lastNm, h]

set_option maxHeartbeats 8000000 in
theorem calc_any (B c m : Nat) (g : Gr) (W : Int) (M : List Bool) (i : In) (w : World) (h : CkAt w B c m g W M) (ha : regB g.refs i.a = true) (hb : regB g.refs i.b = true) (hc : regB g.refs i.c = true) :
    Calls Tryd.prog 68 #[.pointer (some ⟨c, 0, none⟩), .agg #[.int .u8 i.k, .int .u8 i.o, .int .i64 i.a, .int .i64 i.b, .int .i64 i.c, .int .i64 i.n]] w fun e w' => e = .returned (.bool (calcB g.refs i)) ∧ Below w.heap.size w w' := by
  obtain ⟨b0, off, cap, er, hb0⟩ := regs_form h.here ha
  obtain ⟨na, ea, la⟩ := reg_nat ha
  obtain ⟨nb, eb, lb⟩ := reg_nat hb
  obtain ⟨nc, ec, lc⟩ := reg_nat hc
  have ta := h.here.rlies.bit er na la
  have tb := h.here.rlies.bit er nb lb
  have tc := h.here.rlies.bit er nc lc
  have hr : calcB g.refs i = (inB i.o 1 14 && (!refB g.refs i.a && ((refB g.refs i.b == refB g.refs i.c) && (!refB g.refs i.b || (decide (i.o = 11) || decide (i.o = 12)))))) := rfl
  have hq := h.box
  rw [er] at hq
  obtain ⟨q0, q1, q2, q3, q4⟩ := own5 hq
  have hlc := h.lt.1
  have hlb : b0 < w.heap.size := by have := h.base.2.2.2; omega
  obtain ⟨k, op, a, b, cc, n⟩ := i
  simp only at *
  subst ea eb ec
  obtain ⟨NR, hNR⟩ : ∃ N, N = g.refs.length := ⟨_, rfl⟩
  rw [← hNR] at q0 la lb lc
  have hroom : NR ≤ 140737488351232 := by rw [hNR]; exact h.here.rlies.room
  generalize hxa : refB g.refs (na : Int) = xa at ta hr
  generalize hxb : refB g.refs (nb : Int) = xb at tb hr
  generalize hxc : refB g.refs (nc : Int) = xc at tc hr
  have hem := calcNm_emp op
  generalize hy : inB op 1 14 = y at hr hem
  have HCN := Lib.hid (fun w => calcName_any op w)
  generalize calcNm op = nm at HCN hem
  have HR := Lib.hid hr
  clear h hr hq er hNR ha hb hc hxa hxb hxc hy
  cases y
  · go_enter Tryd.func68, Tryd.ntmps68
    go_wp2_with fail
    go_quiet ((go_at_call 72; exact Calls.quiet_of_same ((HCN.out _).mono fun e w1 hh => ⟨hh.1, hh.2.symm⟩)))
    go_wp2_with fail
    go_ret
    exact ⟨by rw [HR.out]; rfl, below_drewN (below_box w _) _⟩
  cases xa
  rotate_left
  · go_enter Tryd.func68, Tryd.ntmps68
    go_wp2_with fail
    go_quiet ((go_at_call 72; exact Calls.quiet_of_same ((HCN.out _).mono fun e w1 hh => ⟨hh.1, hh.2.symm⟩)))
    go_wp2_with fail
    go_ret
    exact ⟨by rw [HR.out]; rfl, below_drewN (below_box w _) _⟩
  cases xb <;> cases xc
  case false.true => 
    go_enter Tryd.func68, Tryd.ntmps68
    go_wp2_with fail
    go_quiet ((go_at_call 72; exact Calls.quiet_of_same ((HCN.out _).mono fun e w1 hh => ⟨hh.1, hh.2.symm⟩)))
    go_wp2_with fail
    go_ret
    exact ⟨by rw [HR.out]; rfl, below_drewN (below_box w _) _⟩
  case true.false => 
    go_enter Tryd.func68, Tryd.ntmps68
    go_wp2_with fail
    go_quiet ((go_at_call 72; exact Calls.quiet_of_same ((HCN.out _).mono fun e w1 hh => ⟨hh.1, hh.2.symm⟩)))
    go_wp2_with fail
    go_ret
    exact ⟨by rw [HR.out]; rfl, below_drewN (below_box w _) _⟩
  case false.false => 
    go_enter Tryd.func68, Tryd.ntmps68
    go_wp2_with fail
    go_quiet ((go_at_call 72; exact Calls.quiet_of_same ((HCN.out _).mono fun e w1 hh => ⟨hh.1, hh.2.symm⟩)))
    go_wp2_with fail
    go_quiet (fail)
    go_wp2_with fail
    go_ret
    exact ⟨by rw [HR.out]; rfl, below_drewN (below_drewN (below_box w _) _) _⟩
  by_cases h11 : op = 11
  · subst h11
    go_enter Tryd.func68, Tryd.ntmps68
    go_wp2_with fail
    go_quiet ((go_at_call 72; exact Calls.quiet_of_same ((HCN.out _).mono fun e w1 hh => ⟨hh.1, hh.2.symm⟩)))
    go_wp2_with fail
    go_quiet (fail)
    go_wp2_with fail
    go_ret
    exact ⟨by rw [HR.out]; rfl, below_drewN (below_drewN (below_box w _) _) _⟩
  by_cases h12 : op = 12
  · subst h12
    go_enter Tryd.func68, Tryd.ntmps68
    go_wp2_with fail
    go_quiet ((go_at_call 72; exact Calls.quiet_of_same ((HCN.out _).mono fun e w1 hh => ⟨hh.1, hh.2.symm⟩)))
    go_wp2_with fail
    go_quiet (fail)
    go_wp2_with fail
    go_ret
    exact ⟨by rw [HR.out]; rfl, below_drewN (below_drewN (below_box w _) _) _⟩
  have b11 : (op == 11) = false := by simpa using h11
  have b12 : (op == 12) = false := by simpa using h12
  rw [decide_eq_false h11, decide_eq_false h12] at HR
  clear h11 h12
  go_enter Tryd.func68, Tryd.ntmps68
  go_wp2_with fail
  go_quiet ((go_at_call 72; exact Calls.quiet_of_same ((HCN.out _).mono fun e w1 hh => ⟨hh.1, hh.2.symm⟩)))
  go_wp2_with fail
  go_quiet (fail)
  go_wp2_with fail
  go_ret
  exact ⟨by rw [HR.out]; rfl, below_drewN (below_drewN (below_box w _) _) _⟩

set_option maxHeartbeats 2000000 in
theorem block_any (B c m : Nat) (g : Gr) (W : Int) (M : List Bool) (k : Int) (w : World) (h : CkAt w B c m g W M) :
    Calls Tryd.prog 71 #[.pointer (some ⟨c, 0, none⟩), .int .i64 k] w fun e w' => e = .returned (.bool (blkB g.blocks.length k)) ∧ w = w' := by
  obtain ⟨ao, cap, eb, -, -⟩ := h.here.blies.form
  have hq := h.box
  rw [eb] at hq
  obtain ⟨q0, q1, q2, q3, q4⟩ := own5 hq
  have hr : blkB g.blocks.length k = (decide (0 ≤ k) && decide (k < g.blocks.length)) := rfl
  generalize g.blocks.length = nb at *
  clear h hq
  by_cases h1 : 0 ≤ k <;> by_cases h2 : k < nb
  all_goals
    first | rw [decide_eq_true h1] at hr | rw [decide_eq_false h1] at hr
    first | rw [decide_eq_true h2] at hr | rw [decide_eq_false h2] at hr
    have HR := Lib.hid hr
    clear hr
    go_enter Tryd.func71, Tryd.ntmps71
    go_wp2_with fail
    go_ret
    exact ⟨by rw [HR.out]; rfl, rfl⟩

/-- A checker whose site has got its mark. -/
theorem CkAt.marked {w : World} {B c m : Nat} {g : Gr} {W : Int} {M : List Bool} (h : CkAt w B c m g W M) (k : Nat) : CkAt (w.setCell ⟨m, k, none⟩ (.bool true)) B c m g W (M.set k true) := by
  have hb : ∀ j, j ≠ m → (w.setCell ⟨m, k, none⟩ (.bool true)).heap[j]? = w.heap[j]? := fun j hj => Below.heap_setCell _ _ _ _ hj
  have hbel : Below B w (w.setCell ⟨m, k, none⟩ (.bool true)) := (Below.refl B w).setCell h.base.2.1 _
  refine ⟨by rw [hb c h.base.2.2.1, List.length_set]; exact h.box, ?_, h.here.keeps hbel, ⟨h.base.1, h.base.2.1, h.base.2.2.1, Nat.le_trans h.base.2.2.2 hbel.size⟩, h.words, by rw [List.length_set]; exact h.many⟩
  simp only [World.setCell, Array.getElem?_modify, if_true, h.made]
  simp

def mkM (M : List Bool) (s : Int) : List Bool := if makesB M s = true then M.set s.toNat true else M
theorem mkM_no {M : List Bool} {s : Int} (h : makesB M s = false) : mkM M s = M := by unfold mkM; rw [h]; rfl
theorem mkM_yes {M : List Bool} {s : Int} (h : makesB M s = true) : mkM M s = M.set s.toNat true := by unfold mkM; rw [h]; rfl
set_option maxHeartbeats 4000000 in
theorem makes_any (B c m : Nat) (g : Gr) (W : Int) (M : List Bool) (s : Int) (w : World) (h : CkAt w B c m g W M) :
    Calls Tryd.prog 70 #[.pointer (some ⟨c, 0, none⟩), .int .i64 s] w fun e w' => e = .returned (.bool (makesB M s)) ∧ CkAt w' B c m g W (mkM M s) ∧ Aside m w w' := by
  obtain ⟨q0, q1, q2, q3, q4⟩ := own5 h.box
  have hr : makesB M s = (decide (0 ≤ s) && (decide (s < M.length) && !refB M s)) := rfl
  have hmany := h.many
  have HF := Lib.hid (fun (k : Nat) => Lib.frozen_of_heap h.made k)
  have hm := h.lt.2
  have H := Lib.hid h
  have HM := Lib.hid (fun (k : Nat) => h.marked k)
  have hcell : ∀ k : Nat, k < M.length → w.cell? ⟨m, k, none⟩ = some (.bool (refB M (k : Int))) := by
    intro k hk
    rw [Lib.cell_of_heap h.made]
    unfold refB
    rw [Int.toNat_natCast]
    simp [hk]
  obtain ⟨N, hN⟩ : ∃ N, N = M.length := ⟨_, rfl⟩
  rw [← hN] at q4 hr hcell hmany
  clear h hN
  by_cases h1 : 0 ≤ s
  rotate_left
  · rw [decide_eq_false h1] at hr
    have HR := Lib.hid hr
    clear hr hcell
    go_enter Tryd.func70, Tryd.ntmps70
    go_wp2_with fail
    go_ret
    exact ⟨by rw [HR.out]; rfl, by rw [mkM_no (HR.out.trans rfl)]; exact H.out, Aside.refl _ _⟩
  obtain ⟨k, rfl⟩ : ∃ k : Nat, s = (k : Int) := ⟨s.toNat, by omega⟩
  by_cases h2 : (k : Int) < N
  rotate_left
  · rw [decide_eq_true h1, decide_eq_false h2] at hr
    have HR := Lib.hid hr
    clear hr hcell
    go_enter Tryd.func70, Tryd.ntmps70
    go_wp2_with fail
    go_ret
    exact ⟨by rw [HR.out]; rfl, by rw [mkM_no (HR.out.trans rfl)]; exact H.out, Aside.refl _ _⟩
  have hkN : k < N := by omega
  have hc := hcell k hkN
  have hfz := HF.out k
  rw [decide_eq_true h1, decide_eq_true h2] at hr
  generalize refB M (k : Int) = x at hr hc
  have HR := Lib.hid hr
  clear hr hcell
  cases x
  · go_enter Tryd.func70, Tryd.ntmps70
    go_wp2_with fail
    go_ret
    exact ⟨by rw [HR.out]; rfl, by rw [mkM_yes (HR.out.trans rfl)]; exact HM.out k, (Aside.refl _ _).set _ _⟩
  · go_enter Tryd.func70, Tryd.ntmps70
    go_wp2_with fail
    go_ret
    exact ⟨by rw [HR.out]; rfl, by rw [mkM_no (HR.out.trans rfl)]; exact H.out, Aside.refl _ _⟩
end Go.Proofs.YtgkjhnghibpeoaaDoor
namespace Go.Proofs.YtgkjhnghibpeoaaDoor
open Go.RowKit
set_option maxRecDepth 100000
attribute [local go_sem ↓] bld_eq bls_eq

def SameBut (z : Nat) (w W : World) : Prop := ∀ k, k < w.heap.size → k ≠ z → W.heap[k]? = w.heap[k]?
theorem SameBut.drew (z : Nat) (w : World) : SameBut z w w.drew := fun _ _ _ => rfl
theorem SameBut.cell {z : Nat} {w W : World} (h : SameBut z w W) {p : Addr} {v : Value} (hp : p.block < w.heap.size ∧ p.block ≠ z) (hc : w.cell? p = some v) : W.cell? p = some v := by
  unfold World.cell? at *
  rw [h _ hp.1 hp.2]; exact hc
theorem Aside.same {m : Nat} {w w' : World} (h : Aside m w w') : SameBut m w w' := fun k hk hm => h.block k hk hm
theorem SameBut.trans {z : Nat} {a b c : World} (h : SameBut z a b) (k : SameBut z b c) (hs : a.heap.size ≤ b.heap.size) : SameBut z a c := fun i hi hz => (k i (by omega) hz).trans (h i hi hz)

theorem next7_on {R : List Bool} {W : Int} {_M : List Bool} {i : In} (_hk : i.k = 7) (_h : (refB R i.a && inB i.n 1 W) = true → False) : True := trivial
theorem fits7_eq {R : List Bool} {W : Int} {M : List Bool} {i : In} (hk : i.k = 7) : fitsB R W M i = (refB R i.a && (inB i.n 1 64 && makesB M i.c)) := by
  unfold fitsB; simp [hk]
theorem next7_no {R : List Bool} {W : Int} {M : List Bool} {i : In} (h : fitsB R W M i = false) : nextM R W M i = M := by
  unfold nextM; rw [if_neg]; rw [h]; exact fun q => by cases q.2
theorem next7_mk {R : List Bool} {W : Int} {M : List Bool} {i : In} (hk : i.k = 7) (h : fitsB R W M i = makesB M i.c) : nextM R W M i = mkM M i.c := by
  unfold nextM mkM; rw [h]
  by_cases hm : makesB M i.c = true
  · rw [if_pos ⟨hk, hm⟩, if_pos hm]
  · rw [if_neg (fun q => hm q.2), if_neg hm]
theorem next_other {R : List Bool} {W : Int} {M : List Bool} {i : In} (hk : ¬ i.k = 7) : nextM R W M i = M := by
  unfold nextM; rw [if_neg (fun q => hk q.1)]
set_option maxHeartbeats 8000000 in
theorem fits7 (B c m : Nat) (g : Gr) (W : Int) (M : List Bool) (i : In) (w : World) (h : CkAt w B c m g W M) (hk : i.k = 7) (ha : regB g.refs i.a = true) :
    Calls Tryd.prog 63 #[.pointer (some ⟨c, 0, none⟩), .agg #[.int .u8 i.k, .int .u8 i.o, .int .i64 i.a, .int .i64 i.b, .int .i64 i.c, .int .i64 i.n]] w fun e w' => e = .returned (.bool (fitsB g.refs W M i)) ∧ CkAt w' B c m g W (nextM g.refs W M i) ∧ Aside m w w' := by
  obtain ⟨b0, off, cap, er, hb0⟩ := regs_form h.here ha
  obtain ⟨na, ea, la⟩ := reg_nat ha
  have ta := h.here.rlies.bit er na la
  have hr := fits7_eq (R := g.refs) (W := W) (M := M) hk
  have HNO := Lib.hid (next7_no (R := g.refs) (W := W) (M := M) (i := i))
  have HMK := Lib.hid (next7_mk (R := g.refs) (W := W) (M := M) (i := i) hk)
  obtain ⟨F, hF⟩ : ∃ F, F = fitsB g.refs W M i := ⟨_, rfl⟩
  obtain ⟨NM, hNM⟩ : ∃ F, F = nextM g.refs W M i := ⟨_, rfl⟩
  rw [← hF] at hr HNO HMK ⊢
  rw [← hNM] at HNO HMK ⊢
  obtain ⟨k, op, a, b, cc, n⟩ := i
  simp only at *
  subst hk ea
  obtain ⟨W1, hW1⟩ : ∃ W1, W1 = w.alloc (.cells #[.int .u8 7, .int .u8 op, .int .i64 (na : Int), .int .i64 b, .int .i64 cc, .int .i64 n] 46) := ⟨_, rfl⟩
  have hb1 : Below w.heap.size w W1 := by rw [hW1]; exact below_box w _
  have hz1 : W1.heap.size = w.heap.size + 1 := by rw [hW1]; simp
  have h1 := h.keeps hb1
  have hO : W1.heap[w.heap.size]? = some (.cells #[.int .u8 7, .int .u8 op, .int .i64 (na : Int), .int .i64 b, .int .i64 cc, .int .i64 n] 46 (0, 0)) := by rw [hW1]; exact (MapKept.heap_alloc _ _).1
  obtain ⟨k0, k1, k2, k3, k4, k5⟩ := own6 hO
  have hq := h1.box
  rw [er] at hq
  obtain ⟨q0, q1, q2, q3, q4⟩ := own5 hq
  have t0 : W1.cell? ⟨b0, off + na, none⟩ = some (.bool (refB g.refs (na : Int))) := by rw [hb1.cell (p := ⟨b0, _, none⟩) (by have := h.base.2.2.2; dsimp only; omega)]; exact ta
  have hlc := h.lt.1
  have hlm := h.lt.2
  have hcm := h.base.2.2.1
  have hlb : b0 < w.heap.size := by have := h.base.2.2.2; omega
  have hbm : b0 < m := by have := h.base.2.1; omega
  obtain ⟨NR, hNR⟩ : ∃ N, N = g.refs.length := ⟨_, rfl⟩
  rw [← hNR] at q0 la
  have hroom : NR ≤ 140737488351232 := by rw [hNR]; exact h.here.rlies.room
  generalize refB g.refs (na : Int) = xa at t0 hr
  generalize hy : inB n 1 64 = y at hr
  have HR := Lib.hid hr
  have HWI := Lib.hid (fun w => within_any n 1 64 w)
  rw [hy] at HWI
  have HMA := Lib.hid (fun (u : World) (hu : Below W1.heap.size W1 u) => makes_any B c m g W M cc u (h1.keeps hu))
  have HCK := Lib.hid (fun (u : World) (hu : Below W1.heap.size W1 u) => h1.keeps hu)
  have HB := Lib.hid hb1
  have HW := Lib.hid hW1
  have HT := Lib.hid hF
  have HQ := Lib.hid q0
  rw [hW1] at k0
  clear h h1 hr hq er hNR ha hy hb1 hO hF ta hNM hW1
  cases xa
  · have HN := HNO.out (by rw [HR.out]; rfl)
    go_enter Tryd.func63, Tryd.ntmps63
    go_wp2_with fail
    rw [← HW.out]
    refine wp_region_held_drew (S := SameBut m W1) (by kernel_rfl) (SameBut.drew _ _) (fun hSw => ?_)
    refine tH 0 (.pointer (some ⟨c, 0, none⟩)) hSw ?_
    try simp only [nS]
    refine tH 1 (.pointer (some ⟨c, 0, none⟩)) hSw ?_
    try simp only [nS]
    refine tH 2 (.pointer (some ⟨c, 0, none⟩)) hSw ?_
    try simp only [nS]
    refine tH 3 (.pointer (some ⟨c, 0, none⟩)) hSw ?_
    try simp only [nS]
    refine tG 4 (.slice (some ⟨b0, off, none⟩) NR cap) hSw (fun W hW => ?_) ?_
    · have q0 := hW.cell (by dsimp only; omega) q0
      first | (go_simp; done) | rfl
    try simp only [nS]
    refine tH 5 (.pointer (some ⟨w.heap.size, 2, none⟩)) hSw ?_
    try simp only [nS]
    refine tG 6 (.int .i64 (na : Int)) hSw (fun W hW => ?_) ?_
    · have k2 := hW.cell (by dsimp only; omega) k2
      first | (go_simp; done) | rfl
    try simp only [nS]
    refine tH 7 (.pointer (some ⟨b0, off + na, none⟩)) hSw ?_
    try simp only [nS]
    refine tG 8 (.bool false) hSw (fun W hW => ?_) ?_
    · have t0 := hW.cell (by dsimp only; omega) t0
      first | (go_simp; done) | rfl
    try simp only [nS]
    refine tH 9 (.bool false) hSw ?_
    try simp only [nS]
    refine tN 10 hSw ?_
    try simp only [nS]
    refine tN 11 hSw ?_
    try simp only [nS]
    refine tN 12 hSw ?_
    try simp only [nS]
    refine tH 13 (.bool false) hSw ?_
    try simp only [nS]
    refine tH 14 (.bool false) hSw ?_
    try simp only [nS]
    refine tN 15 hSw ?_
    try simp only [nS]
    refine tN 16 hSw ?_
    try simp only [nS]
    refine tN 17 hSw ?_
    try simp only [nS]
    refine tN 18 hSw ?_
    try simp only [nS]
    refine tH 19 (.bool false) hSw ?_
    try simp only [nS]
    refine tH 20 (.bool false) hSw ?_
    try simp only [nS]
    refine wpAnyH_done (by kernel_rfl) ?_ _
    go_wp2_with fail
    go_ret
    have hbd : Below W1.heap.size W1 W1.drew := below_drewN (Below.refl _ _) 1
    exact ⟨by rw [HR.out]; rfl, by rw [HN]; exact HCK.out _ hbd, (Aside.of HB.out).drew⟩
  cases y
  · have HN := HNO.out (by rw [HR.out]; rfl)
    go_enter Tryd.func63, Tryd.ntmps63
    go_wp2_with fail
    rw [← HW.out]
    refine wp_region_held_drew (S := SameBut m W1) (by kernel_rfl) (SameBut.drew _ _) (fun hSw => ?_)
    refine tH 0 (.pointer (some ⟨c, 0, none⟩)) hSw ?_
    try simp only [nS]
    refine tH 1 (.pointer (some ⟨c, 0, none⟩)) hSw ?_
    try simp only [nS]
    refine tH 2 (.pointer (some ⟨c, 0, none⟩)) hSw ?_
    try simp only [nS]
    refine tH 3 (.pointer (some ⟨c, 0, none⟩)) hSw ?_
    try simp only [nS]
    refine tG 4 (.slice (some ⟨b0, off, none⟩) NR cap) hSw (fun W hW => ?_) ?_
    · have q0 := hW.cell (by dsimp only; omega) q0
      first | (go_simp; done) | rfl
    try simp only [nS]
    refine tH 5 (.pointer (some ⟨w.heap.size, 2, none⟩)) hSw ?_
    try simp only [nS]
    refine tG 6 (.int .i64 (na : Int)) hSw (fun W hW => ?_) ?_
    · have k2 := hW.cell (by dsimp only; omega) k2
      first | (go_simp; done) | rfl
    try simp only [nS]
    refine tH 7 (.pointer (some ⟨b0, off + na, none⟩)) hSw ?_
    try simp only [nS]
    refine tG 8 (.bool true) hSw (fun W hW => ?_) ?_
    · have t0 := hW.cell (by dsimp only; omega) t0
      first | (go_simp; done) | rfl
    try simp only [nS]
    refine tH 9 (.bool true) hSw ?_
    try simp only [nS]
    refine tH 10 (.pointer (some ⟨w.heap.size, 5, none⟩)) hSw ?_
    try simp only [nS]
    refine tG 11 (.int .i64 n) hSw (fun W hW => ?_) ?_
    · have k5 := hW.cell (by dsimp only; omega) k5
      first | (go_simp; done) | rfl
    try simp only [nS]
    refine tR 12 (fun K hK => ?_)
    clear hSw
    go_simp
    go_at_call 69
    refine (HWI.out _).mono ?_; rintro e w2 ⟨rfl, rfl⟩
    refine hK.out _ _ (SameBut.drew _ _) (fun hSw => ?_)
    clear hK K
    try simp only [nS]
    refine tH 13 (.bool false) hSw ?_
    try simp only [nS]
    refine tH 14 (.bool false) hSw ?_
    try simp only [nS]
    refine tN 15 hSw ?_
    try simp only [nS]
    refine tN 16 hSw ?_
    try simp only [nS]
    refine tN 17 hSw ?_
    try simp only [nS]
    refine tN 18 hSw ?_
    try simp only [nS]
    refine tH 19 (.bool false) hSw ?_
    try simp only [nS]
    refine tH 20 (.bool false) hSw ?_
    try simp only [nS]
    refine wpAnyH_done (by kernel_rfl) ?_ _
    go_wp2_with fail
    go_ret
    have hbd : Below W1.heap.size W1 W1.drew := below_drewN (Below.refl _ _) 1
    exact ⟨by rw [HR.out]; rfl, by rw [HN]; exact HCK.out _ hbd, (Aside.of HB.out).drew⟩
  have HN := HMK.out (by rw [HR.out]; rfl)
  go_enter Tryd.func63, Tryd.ntmps63
  go_wp2_with fail
  rw [← HW.out]
  refine wp_region_held_drew (S := SameBut m W1) (by kernel_rfl) (SameBut.drew _ _) (fun hSw => ?_)
  refine tH 0 (.pointer (some ⟨c, 0, none⟩)) hSw ?_
  try simp only [nS]
  refine tH 1 (.pointer (some ⟨c, 0, none⟩)) hSw ?_
  try simp only [nS]
  refine tH 2 (.pointer (some ⟨c, 0, none⟩)) hSw ?_
  try simp only [nS]
  refine tH 3 (.pointer (some ⟨c, 0, none⟩)) hSw ?_
  try simp only [nS]
  refine tG 4 (.slice (some ⟨b0, off, none⟩) NR cap) hSw (fun W hW => ?_) ?_
  · have q0 := hW.cell (by dsimp only; omega) q0
    first | (go_simp; done) | rfl
  try simp only [nS]
  refine tH 5 (.pointer (some ⟨w.heap.size, 2, none⟩)) hSw ?_
  try simp only [nS]
  refine tG 6 (.int .i64 (na : Int)) hSw (fun W hW => ?_) ?_
  · have k2 := hW.cell (by dsimp only; omega) k2
    first | (go_simp; done) | rfl
  try simp only [nS]
  refine tH 7 (.pointer (some ⟨b0, off + na, none⟩)) hSw ?_
  try simp only [nS]
  refine tG 8 (.bool true) hSw (fun W hW => ?_) ?_
  · have t0 := hW.cell (by dsimp only; omega) t0
    first | (go_simp; done) | rfl
  try simp only [nS]
  refine tH 9 (.bool true) hSw ?_
  try simp only [nS]
  refine tH 10 (.pointer (some ⟨w.heap.size, 5, none⟩)) hSw ?_
  try simp only [nS]
  refine tG 11 (.int .i64 n) hSw (fun W hW => ?_) ?_
  · have k5 := hW.cell (by dsimp only; omega) k5
    first | (go_simp; done) | rfl
  try simp only [nS]
  refine tR 12 (fun K hK => ?_)
  clear hSw
  go_simp
  go_at_call 69
  refine (HWI.out _).mono ?_; rintro e w2 ⟨rfl, rfl⟩
  refine hK.out _ _ (SameBut.drew _ _) (fun hSw => ?_)
  clear hK K
  try simp only [nS]
  refine tH 13 (.bool true) hSw ?_
  try simp only [nS]
  refine tH 14 (.bool true) hSw ?_
  try simp only [nS]
  refine tH 15 (.pointer (some ⟨c, 0, none⟩)) hSw ?_
  try simp only [nS]
  refine tH 16 (.pointer (some ⟨w.heap.size, 4, none⟩)) hSw ?_
  try simp only [nS]
  refine tG 17 (.int .i64 cc) hSw (fun W hW => ?_) ?_
  · have k4 := hW.cell (by dsimp only; omega) k4
    first | (go_simp; done) | rfl
  try simp only [nS]
  refine tR 18 (fun K hK => ?_)
  clear hSw
  go_simp
  have hbd : Below W1.heap.size W1 W1.drew := below_drewN (Below.refl _ _) 1
  go_at_call 70
  refine (HMA.out _ hbd).mono ?_; rintro e w2 ⟨rfl, hc2, ha2⟩
  have HC2 := Lib.hid hc2
  have HA2 := Lib.hid ha2
  clear hc2 ha2
  refine hK.out _ _ ((SameBut.drew _ _).trans HA2.out.same (Nat.le_refl _)) (fun hSw => ?_)
  clear hK K
  try simp only [nS]
  refine tH 19 (.bool (makesB M cc)) hSw ?_
  try simp only [nS]
  refine tH 20 (.bool (makesB M cc)) hSw ?_
  try simp only [nS]
  refine wpAnyH_done (by kernel_rfl) ?_ _
  go_wp2_with fail
  go_ret
  exact ⟨by rw [HR.out]; rfl, by rw [HN]; exact HC2.out, (Aside.of HB.out).drew.trans HA2.out⟩
end Go.Proofs.YtgkjhnghibpeoaaDoor
