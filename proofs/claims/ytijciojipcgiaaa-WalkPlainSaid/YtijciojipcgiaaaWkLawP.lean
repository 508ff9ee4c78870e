/- A leap, whichever it is. -/
import Derived.Test.YtijciojipcgiaaaRows
import Derived.Test.YtijciojipcgiaaaWkLeap
import Derived.Test.YtijciojipcgiaaaIrSizes
import Derived.Test.YtijciojipcgiaaaIrBoth
import Derived.Test.YtijciojipcgiaaaWkBack
import Derived.LoopTactic
import Derived.LoopN
import Derived.WalkKit
import Derived.WalkSpells
import Derived.WalkLawsBesides
import Derived.Lib.Hide
import Derived.OrdersHeld
import Derived.Deep.RegionHeld
import Derived.Deep.DrawnRows
import Derived.RegionTactic
import Derived.Deep.RegionHeld3
import Derived.IntWalk
namespace Go.Proofs.Ytijciojipcgiaaa
open Go.RowKit
set_option maxRecDepth 100000
attribute [local go_sem ↓] bld_eq bls_eq

theorem made_one64' (n : Int) (w : World) : (bls 35 1 #[(0, .int .i64 n)]).run Try.prog w = .ok (.slice (some ⟨w.heap.size, 0, none⟩) 1 1) (w.alloc (.cells #[.int .i64 n] 2)) := bls_of 35 2 1 1 #[(0, .int .i64 n)] #[.int .i64 n] (by kernel_rfl) (by kernel_rfl) (by kernel_rfl) (by omega) (by omega) (by kernel_rfl) (by kernel_rfl) w
theorem Tail.form' {ow : Nat → Nat} {w : World} {lab : Nat} {v : Value} {l : List Int} (h : Tail ow w lab v l) : ∃ q c, v = .slice q l.length c := by
  rcases h with ⟨rfl, rfl⟩ | ⟨g, off, cap, cur, rfl, _⟩
  · exact ⟨none, 0, rfl⟩
  · exact ⟨_, _, rfl⟩
theorem Tail.cons {ow : Nat → Nat} {w : World} {lab : Nat} {v : Value} {x : Int} {r : List Int} (h : Tail ow w lab v (x :: r)) : ∃ wg off cap, v = .slice (some ⟨wg, off, none⟩) (r.length + 1) cap ∧ r.length + 1 ≤ cap ∧ cap ≤ maxLen ∧ wg < w.heap.size ∧ ow wg = lab ∧ w.cell? ⟨wg, off, none⟩ = some (.int .i64 x) ∧
    ∀ (ow' : Nat → Nat) (w' : World), w'.heap[wg]? = w.heap[wg]? → ow' wg = lab → Tail ow' w' lab (.slice (if cap = 1 then some ⟨wg, off, none⟩ else some ⟨wg, off + 1, none⟩) r.length (cap - 1)) r := by
  rcases h with ⟨_, h⟩ | ⟨g, off, cap, cur, rfl, hg, hl, h1, h2, h3, h4⟩
  · cases h
  · rw [List.length_cons] at h1
    refine ⟨g, off, cap, rfl, h1, h2, heap_lt hg, hl, ?_, fun ow' w' hk hl' => .inr ?_⟩
    · rw [Lib.cell_of_heap hg]
      exact h4 0 x rfl
    · by_cases hc : cap = 1
      · have hr : r = [] := List.length_eq_zero_iff.1 (by omega)
        subst hr
        exact ⟨g, off, cap - 1, cur, by rw [if_pos hc], hk.trans hg, hl', by simp, by omega, by omega, fun i y hy => by simp at hy⟩
      · exact ⟨g, off + 1, cap - 1, cur, by rw [if_neg hc], hk.trans hg, hl', by omega, by omega, by omega, fun i y hy => by rw [Nat.add_assoc, Nat.add_comm 1 i]; exact h4 (i + 1) y (by simpa using hy)⟩
set_option maxHeartbeats 8000000 in
theorem leap_any (ow : Nat → Nat) (w : World) (B b j p n : Nat) (g : Gr) (W : WS) (T : TS) (v rs us ts ws : Value) (h1 : WAt ow w b W n v) (h2 : TAt ow w b j p g T rs us ts ws) (hB : B ≤ w.heap.size) (hlow : ∀ k, k < B → ow k = 0) (hg : GIn w B g) (hgo : GOk g) (hs : Still g n W T) (hw1 : 1 ≤ W.words.length) :
    Calls Try.prog 17 #[.pointer (some ⟨p, 0, none⟩)] w (LeapE ow b j p g (leapT g n W T) w) := by
  have hlp := heap_lt h2.box
  have d10 := h2.cells.2.2.2.2.2.2.2.2.1
  have d11 := h2.cells.2.2.2.2.2.2.2.2.2.1
  have d12 := h2.cells.2.2.2.2.2.2.2.2.2.2
  have ht := h2.told.form'
  cases hwt : T.waiting with
  | nil =>
    have hws : ∃ q c, ws = .slice q 0 c := by
      have := h2.waiting
      rw [hwt] at this
      rcases this with ⟨h, _⟩ | ⟨wg, off, cap, cur, h, _⟩
      · exact ⟨_, _, h⟩
      · exact ⟨_, _, h⟩
    obtain ⟨q, c, rfl⟩ := hws
    by_cases hf : T.fin = 0
    · have hr : leapT g n W T = goT g n W T := by unfold leapT; rw [hwt]; simp [hf]
      rw [hr]
      have HGO := Lib.hid (goOn_any ow w B b j p n W.words.length g W T v rs us ts _ h1 h2 hB hlow hg hgo (hs.mid hf hw1))
      rw [hf] at d12
      clear h1 h2 hB hlow hg hgo hs hw1 hr hf hwt ht d10
      go_enter Try.func17, Try.ntmps17
      go_wp2_with fail
      refine HGO.out.mono ?_; rintro e w2 hE
      obtain ⟨r, hr⟩ := (show ∃ r, e = .returned (.bool r) from ⟨_, hE.1⟩)
      subst hr
      have HE := Lib.hid hE
      clear hE
      go_wp2_with fail
      go_ret
      exact HE.out
    · have hr : leapT g n W T = (n, W, T, true) := by unfold leapT; rw [hwt]; simp [hf]
      rw [hr]
      have hf1 := eq2_of T.fin 0 hf
      have HFIN := Lib.hid (show LeapE ow b j p g (n, W, T, true) w (.returned (.bool true)) w from ⟨rfl, ow, v, rs, us, ts, _, .refl _ _, h1, h2, Kp.refl _ _ _⟩)
      obtain ⟨fi, hfi⟩ : ∃ x, x = T.fin := ⟨_, rfl⟩
      rw [← hfi] at d12 hf1
      clear h1 h2 hB hlow hg hgo hs hw1 hr hf hwt ht d10 hfi
      go_enter Try.func17, Try.ntmps17
      go_wp2_with fail
      go_ret
      exact HFIN.out
  | cons x r =>
    have hr : leapT g n W T = (n, W, { T with told := T.told ++ [x], waiting := r }, true) := by unfold leapT; rw [hwt]
    rw [hr]
    have hwa := h2.waiting
    rw [hwt] at hwa
    obtain ⟨wg, off, cap, rfl, hc1, hc2, hwg, hlw, hcell, hcut⟩ := hwa.cons
    obtain ⟨tp, tc, hts⟩ := ht
    have h1d := h1.keeps (But.of (ls := []) (below_drewN' (Below.refl _ _))) (.refl _ _) (by simp) (by simp)
    have h2d := h2.keeps (But.of (ls := []) (below_drewN' (Below.refl _ _))) (.refl _ _) (by simp)
    obtain ⟨v', w4, hrun, ⟨q2, c2, hv⟩, g0, f0, ow', he, h1e, h2e, hk, hb4⟩ := told_push2 ow w.drew b j p n g W T v rs us ts _ h1d h2d x (by have := hs.out; omega)
    subst hv
    have hS4 : SameAt (fun k off => (k = p ∧ (off = 10 ∨ off = 11)) ∨ k = wg) w w4 := by
      have hpk : w4.heap[p]? = w.heap[p]? := hb4.block p hlp (by rw [h2.lab]; simp)
      have hwk : w4.heap[wg]? = w.heap[wg]? := hb4.block wg hwg (by rw [hlw]; simp)
      rintro k off2 (⟨rfl, _⟩ | rfl)
      · simp only [World.cell?, hpk]
      · simp only [World.cell?, hwk]
    obtain ⟨W5, hW5⟩ : ∃ V, V = w4.setCell ⟨p, 10, none⟩ (.slice q2 (T.told.length + 1) c2) := ⟨_, rfl⟩
    rw [← hW5] at h1e h2e hk
    have hwk5 : W5.heap[wg]? = w.heap[wg]? := by
      rw [hW5]
      exact (Below.heap_setCell _ _ _ _ (fun e => by have := h2.lab; rw [← (show wg = p from e), hlw] at this; omega)).trans (hb4.block wg hwg (by rw [hlw]; simp))
    have k11 := h2e.cells.2.2.2.2.2.2.2.2.2.1
    have f11 := Lib.frozen_of_heap h2e.box 11
    obtain ⟨nv, hnv⟩ : ∃ nv, nv = Value.slice (if cap = 1 then some ⟨wg, off, none⟩ else some ⟨wg, off + 1, none⟩) r.length (cap - 1) := ⟨_, rfl⟩
    have hs1 : But ow' [10 + 8 * j] W5 (W5.setCell ⟨p, 11, none⟩ nv) := but_set _ _ h2e.lab
    have hno : ∀ k, k ≠ 0 → 10 + k + 8 * j ∉ [10 + 8 * j] := fun k h0 q => by simp at q; omega
    have hwp : wg ≠ p := fun e => by have := h2.lab; rw [← e, hlw] at this; omega
    have hfin : LeapE ow b j p g (n, W, { T with told := T.told ++ [x], waiting := r }, true) w (.returned (.bool true)) (W5.setCell ⟨p, 11, none⟩ nv) := by
      refine ⟨rfl, ow', v, rs, us, _, nv, fun k hk => he k hk, h1e.keeps hs1 (.refl _ _) (by simp; omega) (by simp; omega), ⟨tset_box 11 _ h2e.box rfl, h2e.lab, regs_keep h2e.regs hs1 (.refl _ _) (hno 1 (by omega)), undo_keep h2e.undo hs1 (.refl _ _) (hno 2 (by omega)) (hno 5 (by omega)), h2e.told.keeps hs1 (.refl _ _) (hno 3 (by omega)), ?_⟩, ?_⟩
      · rw [hnv]
        exact hcut ow' _ ((Below.heap_setCell _ _ _ _ hwp).trans hwk5) (by rw [he wg hwg]; exact hlw)
      · exact (show Kp ow j w W5 from ⟨hk.os, hk.tape, hk.output, hk.size, hk.block⟩).trans (fun k hk => he k hk) (hs1.kp (by intro l hl; simp at hl; unfold Mine; omega))
    have HRUN := Lib.hid hrun
    have HFIN := Lib.hid hfin
    have HS4 := Lib.hid hS4
    have HW5 := Lib.hid hW5
    have HNV := Lib.hid hnv
    have e3 := made_one64'
    obtain ⟨NT, hNT⟩ : ∃ N, N = r.length := ⟨_, rfl⟩
    rw [← hNT] at hc1 d11 k11 HNV
    have hrL : NT ≤ 1048576 := by rw [hNT]; have := hs.out; rw [hwt] at this; simp at this; omega
    subst hts
    clear h1 h2 hB hlow hg hgo hs hw1 hr hwt h1d h2d hrun he h1e h2e hk hb4 hS4 hW5 hwk5 hnv hs1 hno hfin hcut hlw hwa hNT d12 hwp
    go_enter Try.func17, Try.ntmps17
    go_wp2_with fail
    refine wp_region_late (S := SameAt (fun k off => (k = p ∧ (off = 10 ∨ off = 11)) ∨ k = wg) w) (fun j => decide (13 ≤ j)) (by kernel_rfl) (fun _ _ _ => rfl) (fun hSw => ?_)
    refine wpAnyL_take (i := 0) (v := .pointer (some ⟨p, 0, none⟩)) rfl (by kernel_rfl) (by kernel_rfl) (by kernel_rfl) rfl (by kernel_rfl) (fun _ _ _ h => h) (Or.inl ⟨by rfl, fun W hW => ?_⟩) hSw ?_
    · first | (go_simp; done) | rfl
    try simp only [Act.put, List.setIfInBounds_toArray]
    refine wpAnyL_take (i := 1) (v := .pointer (some ⟨p, 0, none⟩)) rfl (by kernel_rfl) (by kernel_rfl) (by kernel_rfl) rfl (by kernel_rfl) (fun _ _ _ h => h) (Or.inl ⟨by rfl, fun W hW => ?_⟩) hSw ?_
    · first | (go_simp; done) | rfl
    try simp only [Act.put]
    refine wpAnyL_take (i := 2) (v := .pointer (some ⟨p, 0, none⟩)) rfl (by kernel_rfl) (by kernel_rfl) (by kernel_rfl) rfl (by kernel_rfl) (fun _ _ _ h => h) (Or.inl ⟨by rfl, fun W hW => ?_⟩) hSw ?_
    · first | (go_simp; done) | rfl
    try simp only [Act.put]
    refine wpAnyL_take (i := 3) (v := .pointer (some ⟨p, 10, none⟩)) rfl (by kernel_rfl) (by kernel_rfl) (by kernel_rfl) rfl (by kernel_rfl) (fun _ _ _ h => h) (Or.inl ⟨by rfl, fun W hW => ?_⟩) hSw ?_
    · first | (go_simp; done) | rfl
    try simp only [Act.put]
    refine wpAnyL_take (i := 4) (v := .slice tp T.told.length tc) rfl (by kernel_rfl) (by kernel_rfl) (by kernel_rfl) rfl (by kernel_rfl) (fun _ _ _ h => h) (Or.inl ⟨by rfl, fun W hW => ?_⟩) hSw ?_
    · have d10 := hW.cell (by first | omega | (dsimp only; omega)) d10
      first | (go_simp; done) | rfl
    try simp only [Act.put]
    refine wpAnyL_take (i := 5) (v := .pointer (some ⟨p, 0, none⟩)) rfl (by kernel_rfl) (by kernel_rfl) (by kernel_rfl) rfl (by kernel_rfl) (fun _ _ _ h => h) (Or.inl ⟨by rfl, fun W hW => ?_⟩) hSw ?_
    · first | (go_simp; done) | rfl
    try simp only [Act.put]
    refine wpAnyL_take (i := 6) (v := .pointer (some ⟨p, 0, none⟩)) rfl (by kernel_rfl) (by kernel_rfl) (by kernel_rfl) rfl (by kernel_rfl) (fun _ _ _ h => h) (Or.inl ⟨by rfl, fun W hW => ?_⟩) hSw ?_
    · first | (go_simp; done) | rfl
    try simp only [Act.put]
    refine wpAnyL_take (i := 7) (v := .pointer (some ⟨p, 11, none⟩)) rfl (by kernel_rfl) (by kernel_rfl) (by kernel_rfl) rfl (by kernel_rfl) (fun _ _ _ h => h) (Or.inl ⟨by rfl, fun W hW => ?_⟩) hSw ?_
    · first | (go_simp; done) | rfl
    try simp only [Act.put]
    refine wpAnyL_take (i := 8) (v := .slice (some ⟨wg, off, none⟩) (NT + 1) cap) rfl (by kernel_rfl) (by kernel_rfl) (by kernel_rfl) rfl (by kernel_rfl) (fun _ _ _ h => h) (Or.inl ⟨by rfl, fun W hW => ?_⟩) hSw ?_
    · have d11 := hW.cell (by first | omega | (dsimp only; omega)) d11
      first | (go_simp; done) | rfl
    try simp only [Act.put]
    refine wpAnyL_take (i := 9) (v := .pointer (some ⟨wg, off, none⟩)) rfl (by kernel_rfl) (by kernel_rfl) (by kernel_rfl) rfl (by kernel_rfl) (fun _ _ _ h => h) (Or.inl ⟨by rfl, fun W hW => ?_⟩) hSw ?_
    · first | (go_simp; done) | rfl
    try simp only [Act.put]
    refine wpAnyL_take (i := 10) (v := .int .i64 x) rfl (by kernel_rfl) (by kernel_rfl) (by kernel_rfl) rfl (by kernel_rfl) (fun _ _ _ h => h) (Or.inl ⟨by rfl, fun W hW => ?_⟩) hSw ?_
    · have hcell := hW.cell (by first | omega | (dsimp only; omega)) hcell
      first | (go_simp; done) | rfl
    try simp only [Act.put]
    refine wpAnyL_ready (rs := [11]) (by kernel_rfl) (by simp) (AllReadyL.cons rfl rfl (fun J hK => ?_) AllReadyL.nil)
    rw [if_pos (by rfl)]
    clear hSw
    go_simp
    
    refine hK.out _ _ (fun k o2 hk => by have h5 : (w.alloc (.cells #[.int .i64 x] 2)).drew.heap[k]? = w.heap[k]? := Below.heap_alloc w _ k (by rcases hk with ⟨rfl, _⟩ | rfl <;> omega); simp only [World.cell?, h5]) (fun hSw => ?_)
    clear hK J
    try simp only [Act.put, List.setIfInBounds_toArray, List.set_cons_zero, List.set_cons_succ]
    refine wpAnyL_ready (rs := [12]) (by kernel_rfl) (by simp) (AllReadyL.cons rfl rfl (fun J hK => ?_) AllReadyL.nil)
    rw [if_pos (by rfl)]
    clear hSw
    refine Lib.wp_append_run _ _ _ _ _ rfl _ _ rfl rfl _ w4 HRUN.out ?_
    refine hK.out _ _ (HS4.out) (fun hSw => ?_)
    clear hK J
    try simp only [Act.put, List.setIfInBounds_toArray]
    refine wpAnyL_only (rs := [13]) (by kernel_rfl) (by simp) (by rfl) ?_
    refine wpAny_one (i := 13) (by kernel_rfl) rfl (fun J hK => ?_)
    rw [if_pos (by rfl)]
    go_simp
    refine hK.out _ _ ?_
    clear hK J
    try simp only [Act.put, List.setIfInBounds_toArray, List.set_cons_zero, List.set_cons_succ]
    refine wpAny_one (i := 14) (by kernel_rfl) rfl (fun J hK => ?_)
    rw [if_pos (by rfl)]
    go_simp
    refine hK.out _ _ ?_
    clear hK J
    try simp only [Act.put, List.setIfInBounds_toArray, List.set_cons_zero, List.set_cons_succ]
    refine wpAny_one (i := 15) (by kernel_rfl) rfl (fun J hK => ?_)
    rw [if_pos (by rfl)]
    go_simp
    refine hK.out _ _ ?_
    clear hK J
    try simp only [Act.put, List.setIfInBounds_toArray, List.set_cons_zero, List.set_cons_succ]
    refine wpAny_done (by kernel_rfl) ?_ _
    rw [← HW5.out]
    clear d10 d11 hcell g0 f0 e3 hSw
    by_cases hcap : cap = 1
    · have hnv : nv = Value.slice (some ⟨wg, off, none⟩) NT 0 := by rw [HNV.out, if_pos hcap, hcap]
      have HQ := HFIN.out
      rw [hnv] at HQ
      have HQ2 := Lib.hid HQ
      clear HQ hnv HNV HFIN
      go_wp2_with fail
      go_ret
      exact HQ2.out
    · have hnv : nv = Value.slice (some ⟨wg, off + 1, none⟩) NT (cap - 1) := by rw [HNV.out, if_neg hcap]
      have HQ := HFIN.out
      rw [hnv] at HQ
      have HQ2 := Lib.hid HQ
      clear HQ hnv HNV HFIN
      go_wp2_with fail
      go_ret
      exact HQ2.out
end Go.Proofs.Ytijciojipcgiaaa
namespace Go.Proofs.Ytijciojipcgiaaa
open Go Go.Lib Go.RowKit
set_option maxRecDepth 100000

theorem regN_of {R : List Bool} {x : Int} (h : regB R x = true) : RegN R.length x := by
  unfold regB at h
  simp only [Bool.and_eq_true, decide_eq_true_eq] at h
  exact h
theorem winB_of {n a b : Int} (h : inB n a b = true) : a ≤ n ∧ n ≤ b := by
  unfold inB at h
  simp only [Bool.and_eq_true, decide_eq_true_eq] at h
  exact h
theorem k14 {k : Int} (h : 1 ≤ k ∧ k ≤ 14) : k = 1 ∨ k = 2 ∨ k = 3 ∨ k = 4 ∨ k = 5 ∨ k = 6 ∨ k = 7 ∨ k = 8 ∨ k = 9 ∨ k = 10 ∨ k = 11 ∨ k = 12 ∨ k = 13 ∨ k = 14 := by omega
set_option maxHeartbeats 4000000 in
theorem shaped_a {R : List Bool} {i : In} (h : shaped R i (insHas i.k) = true) (hk : i.k = 1 ∨ i.k = 2 ∨ i.k = 3 ∨ i.k = 6 ∨ i.k = 7 ∨ i.k = 8 ∨ i.k = 9 ∨ i.k = 10 ∨ i.k = 11) : regB R i.a = true := by
  cases hA : regB R i.a with
  | true => rfl
  | false =>
    exfalso
    unfold shaped at h
    rcases hk with e | e | e | e | e | e | e | e | e <;> rw [e] at h <;> simp [insHas, shpS, shp1, hA] at h
set_option maxHeartbeats 4000000 in
theorem shaped_b {R : List Bool} {i : In} (h : shaped R i (insHas i.k) = true) (hk : i.k = 2 ∨ i.k = 3 ∨ i.k = 4 ∨ i.k = 5 ∨ i.k = 8 ∨ i.k = 9 ∨ i.k = 10 ∨ i.k = 11 ∨ i.k = 12) : regB R i.b = true := by
  cases hB : regB R i.b with
  | true => rfl
  | false =>
    exfalso
    unfold shaped at h
    cases hA : regB R i.a <;> rcases hk with e | e | e | e | e | e | e | e | e <;> rw [e] at h <;> simp [insHas, shpS, shp1, hA, hB] at h
set_option maxHeartbeats 4000000 in
theorem shaped_c {R : List Bool} {i : In} (h : shaped R i (insHas i.k) = true) (hk : i.k = 3 ∨ (i.c ≠ -1 ∧ (i.k = 8 ∨ i.k = 9 ∨ i.k = 10 ∨ i.k = 11))) : regB R i.c = true := by
  cases hC : regB R i.c with
  | true => rfl
  | false =>
    exfalso
    unfold shaped at h
    rcases hk with e | ⟨hc, e | e | e | e⟩ <;> rw [e] at h <;> cases hA : regB R i.a <;> cases hB : regB R i.b <;> simp [insHas, shpS, shp1, *] at h
theorem insB_fits {R : List Bool} {W : Int} {M : List Bool} {i : In} (h : insB R W M i = true) : Fits R.length i := by
  unfold insB at h
  simp only [Bool.and_eq_true] at h
  obtain ⟨h1, h2, h3⟩ := h
  refine ⟨winB_of h1, fun hk => regN_of (shaped_a h2 hk), fun hk => regN_of (shaped_b h2 hk), fun hk => regN_of (shaped_c h2 (.inl hk)), fun hk => ?_, fun hk => ?_⟩
  · by_cases hc : i.c = -1
    · exact .inl (by omega)
    · exact .inr (regN_of (shaped_c h2 (.inr ⟨hc, hk⟩)))
  · unfold fitsB at h3
    rw [hk] at h3
    simp only [] at h3
    have h4 : refB R i.a = true ∧ inB i.n 1 64 = true ∧ makesB M i.c = true := by simpa using h3
    have := winB_of h4.2.1
    omega
theorem firstI_all {R : List Bool} {W : Int} : ∀ (l : List In) (k : Nat) (M : List Bool), (firstI R W k M l).1 = none → ∀ i ∈ l, Fits R.length i := by
  intro l
  induction l with
  | nil => intro k M _ i hi; simp at hi
  | cons a l ih =>
    intro k M h i hi
    rw [firstI] at h
    split at h
    · rename_i ha
      rcases List.mem_cons.1 hi with rfl | hi
      · exact insB_fits ha
      · exact ih _ _ h i hi
    · cases h
theorem firstB_all {R : List Bool} {W : Int} {nb : Nat} : ∀ (l : List Bk) (n : Nat) (M : List Bool), firstB R W nb n M l = none → ∀ b ∈ l, (∀ i ∈ b.ins, Fits R.length i) ∧ lastB R nb b = true := by
  intro l
  induction l with
  | nil => intro n M _ b hb; simp at hb
  | cons a l ih =>
    intro n M h b hb
    rw [firstB] at h
    split at h
    · cases h
    · rename_i M' hM
      split at h
      · rename_i hl
        rcases List.mem_cons.1 hb with rfl | hb
        · exact ⟨firstI_all _ _ _ (by rw [hM]), hl⟩
        · exact ih _ _ h b hb
      · cases h
theorem lastB_ok {R : List Bool} {nb : Nat} {b : Bk} (h : lastB R nb b = true) : LastOk R.length nb b := by
  unfold lastB at h
  simp only [Bool.and_eq_true] at h
  obtain ⟨h1, h2, h3⟩ := h
  have hk := winB_of h1
  have blk : ∀ {x : Int}, blkB nb x = true → RegN nb x := fun {x} hx => by
    unfold blkB at hx
    simp only [Bool.and_eq_true, decide_eq_true_eq] at hx
    exact hx
  refine ⟨fun e => ?_, fun e => ?_, fun e => ?_⟩
  · refine regN_of (R := R) ?_
    cases hA : regB R b.reg with
    | true => rfl
    | false =>
      exfalso
      unfold shaped at h2
      rw [e] at h2
      simp [lastHas, shpS, shp1, endI, hA] at h2
  · unfold leadsB at h3
    have : b.last = 1 ∨ b.last = 2 := by omega
    rcases this with e | e
    · rw [e, if_pos rfl] at h3
      exact blk h3
    · rw [e] at h3
      simp only [] at h3
      have h4 : refB R b.reg = false ∧ blkB nb b.yes = true ∧ blkB nb b.no = true := by simpa using h3
      exact blk h4.2.1
  · unfold leadsB at h3
    rw [e] at h3
    have h4 : refB R b.reg = false ∧ blkB nb b.yes = true ∧ blkB nb b.no = true := by simpa using h3
    exact blk h4.2.2
/-- What a graph that may be is good for. -/
theorem checkG_ok {W : Int} {g : Gr} (h : (checkG W g).2 = 0) : GOk g ∧ g.refs.length ≤ 1024 ∧ g.blocks.length ≤ 4096 := by
  unfold checkG at h
  split at h
  · rename_i hs
    have hsz : ¬ (1024 < g.refs.length ∨ 4096 < g.blocks.length ∨ 8192 < g.sites) ∧ ¬ (g.blocks.length = 0 ∨ g.sites < 0) := by
      unfold sizesE at hs
      split at hs
      · cases hs
      · split at hs
        · cases hs
        · split at hs
          · cases hs
          · exact ⟨by assumption, by assumption⟩
    cases hf : firstB g.refs W g.blocks.length 0 (List.replicate g.sites.toNat false) g.blocks with
    | some at' => rw [hf] at h; cases h
    | none =>
      have ha := firstB_all _ _ _ hf
      exact ⟨⟨by omega, fun bk hb => (ha bk hb).1, fun bk hb => lastB_ok (ha bk hb).2⟩, by omega, by omega⟩
  · rename_i hs
    exact absurd h hs
theorem checkL_all {W : Int} : ∀ (l : List Gr) (n : Nat), (checkL W n l).2.2 = 0 → ∀ g ∈ l, (checkG W g).2 = 0 := by
  intro l
  induction l with
  | nil => intro n _ g hg; simp at hg
  | cons a l ih =>
    intro n h g hg
    rw [checkL] at h
    split at h
    · rename_i ha
      rcases List.mem_cons.1 hg with rfl | hg
      · exact ha
      · exact ih _ h g hg
    · rename_i ha
      exact absurd h ha
/-- What a program of graphs that may be is good for. -/
theorem checkC_ok {W : Int} {l : List Gr} (h : (checkC W l).2.2 = 0) : 0 ≤ W ∧ W ≤ 65536 ∧ l.length ≤ 4 ∧ ∀ g ∈ l, GOk g ∧ g.refs.length ≤ 1024 ∧ g.blocks.length ≤ 4096 := by
  unfold checkC at h
  split at h
  · cases h
  · split at h
    · cases h
    · exact ⟨by omega, by omega, by omega, fun g hg => checkG_ok (checkL_all _ _ h g hg)⟩
end Go.Proofs.Ytijciojipcgiaaa
namespace Go.Proofs.Ytijciojipcgiaaa
open Go Go.Lib Go.RowKit
set_option maxRecDepth 100000

/-- The labels that a step of the j-th thread touches. -/
def mineL (j : Nat) : List Nat := [1, 2, 10 + 8 * j, 11 + 8 * j, 12 + 8 * j, 13 + 8 * j, 14 + 8 * j, 15 + 8 * j, 16 + 8 * j, 17 + 8 * j]
theorem mine_mem {j l : Nat} : Mine j l ↔ l ∈ mineL j := by
  unfold Mine mineL
  simp only [List.mem_cons, List.not_mem_nil, or_false]
  omega
theorem Kp.but {ow : Nat → Nat} {j : Nat} {w w' : World} (h : Kp ow j w w') : But ow (mineL j) w w' := ⟨h.os, h.tape, h.output, h.size, fun k hk hm => h.block k hk (fun q => hm (mine_mem.1 q))⟩
theorem mine_far {j i : Nat} (h : j ≠ i) : ∀ l ∈ mineL j, l < 10 + 8 * i ∨ 18 + 8 * i ≤ l := by
  intro l hl
  have := mine_mem.2 hl
  unfold Mine at this
  omega
/-- A thread as it begins. -/
def TS0 (g : Gr) : TS := ⟨List.replicate g.refs.length 0, 0, 0, false, 0, [], [], [], 0⟩
def RS0 (W : Int) (gs : List Gr) (n : Nat) : RS := ⟨n, ⟨List.replicate (W.toNat + 1) 0, false⟩, gs.map TS0⟩
theorem still0 (W : Int) (gs : List Gr) (n : Nat) (hn : n ≤ 1048576) (g : Gr) (hg : GOk g) : Still g n (RS0 W gs n).W (TS0 g) :=
  ⟨⟨by simp [TS0], hg.first, fun bk _ => Nat.zero_le _⟩, by simpa [TS0] using hn, by simpa [TS0] using hn, fun _ u hu => by simp [TS0] at hu⟩
/-- A run in memory: the world's block, the threads' blocks. -/
structure RunAt (ow : Nat → Nat) (w : World) (B b : Nat) (gs : List Gr) (ps : List Nat) (s : RS) (v : Value) : Prop where
  world : WAt ow w b s.W s.n v
  base : B ≤ w.heap.size
  low : ∀ k, k < B → ow k = 0
  tlen : s.T.length = gs.length
  plen : ps.length = gs.length
  words : 1 ≤ s.W.words.length
  each : ∀ (j : Nat) g T p, gs[j]? = some g → s.T[j]? = some T → ps[j]? = some p → (∃ rs us ts ws, TAt ow w b j p g T rs us ts ws) ∧ Still g s.n s.W T
/-- What is told in the end. -/
theorem RunAt.below {ow : Nat → Nat} {w w' : World} {B b : Nat} {gs : List Gr} {ps : List Nat} {s : RS} {v : Value} (h : RunAt ow w B b gs ps s v) (hb : Below w.heap.size w w') : RunAt ow w' B b gs ps s v := by
  have hbut : But ow [] w w' := But.of hb
  refine ⟨h.world.keeps hbut (.refl _ _) (by simp) (by simp), Nat.le_trans h.base hb.size, h.low, h.tlen, h.plen, h.words, fun j g T p h1 h2 h3 => ?_⟩
  obtain ⟨⟨rs, us, ts, ws, ht⟩, hs⟩ := h.each j g T p h1 h2 h3
  exact ⟨⟨rs, us, ts, ws, ht.keeps hbut (.refl _ _) (by simp)⟩, hs⟩
/-- A leap. -/
theorem RunAt.leap {ow : Nat → Nat} {w w' : World} {B b j p : Nat} {gs : List Gr} {ps : List Nat} {s : RS} {v : Value} {g : Gr} {T : TS} (h : RunAt ow w B b gs ps s v) (hg : gs[j]? = some g) (hT : s.T[j]? = some T) (hp : ps[j]? = some p) (hgo : GOk g)
    {ow' : Nat → Nat} {v' rs us ts ws : Value} (he : Ext ow ow' w) (h1 : WAt ow' w' b (leapT g s.n s.W T).2.1 (leapT g s.n s.W T).1 v') (h2 : TAt ow' w' b j p g (leapT g s.n s.W T).2.2.1 rs us ts ws) (hk : Kp ow j w w') (hmade : (leapT g s.n s.W T).2.2.2 = true) :
    RunAt ow' w' B b gs ps ⟨(leapT g s.n s.W T).1, (leapT g s.n s.W T).2.1, s.T.set j (leapT g s.n s.W T).2.2.1⟩ v' := by
  obtain ⟨-, hst⟩ := h.each j g T p hg hT hp
  obtain ⟨s1, s2, s3⟩ := hst.leap hgo h.words
  refine ⟨h1, Nat.le_trans h.base hk.size, fun k hkB => by rw [he k (by have := h.base; omega)]; exact h.low k hkB, by simpa using h.tlen, h.plen, Nat.le_trans h.words s2, fun i g' T' p' e1 e2 e3 => ?_⟩
  simp only [List.getElem?_set] at e2
  by_cases hij : j = i
  · subst hij
    rw [if_pos rfl] at e2
    split at e2
    · cases e2
      rw [hg] at e1; cases e1
      rw [hp] at e3; cases e3
      exact ⟨⟨rs, us, ts, ws, h2⟩, s1 hmade⟩
    · cases e2
  · rw [if_neg hij] at e2
    obtain ⟨⟨a, b', c, d, ht⟩, hs'⟩ := h.each i g' T' p' e1 e2 e3
    exact ⟨⟨a, b', c, d, ht.keeps hk.but he (mine_far hij)⟩, hs'.other s3 s2⟩
/-- The last leap, which was not made: what was told and how the threads stand lies in memory all the same. -/
structure EndAt (ow : Nat → Nat) (w : World) (b : Nat) (gs : List Gr) (ps : List Nat) (s : RS) (v : Value) : Prop where
  world : WAt ow w b s.W s.n v
  tlen : s.T.length = gs.length
  each : ∀ (j : Nat) g T p, gs[j]? = some g → s.T[j]? = some T → ps[j]? = some p → ∃ rs us ts ws, TAt ow w b j p g T rs us ts ws
theorem RunAt.end {ow : Nat → Nat} {w : World} {B b : Nat} {gs : List Gr} {ps : List Nat} {s : RS} {v : Value} (h : RunAt ow w B b gs ps s v) : EndAt ow w b gs ps s v :=
  ⟨h.world, h.tlen, fun j g T p h1 h2 h3 => (h.each j g T p h1 h2 h3).1⟩
theorem EndAt.below {ow : Nat → Nat} {w w' : World} {b : Nat} {gs : List Gr} {ps : List Nat} {s : RS} {v : Value} (h : EndAt ow w b gs ps s v) (hb : Below w.heap.size w w') : EndAt ow w' b gs ps s v := by
  have hbut : But ow [] w w' := But.of hb
  refine ⟨h.world.keeps hbut (.refl _ _) (by simp) (by simp), h.tlen, fun j g T p h1 h2 h3 => ?_⟩
  obtain ⟨rs, us, ts, ws, ht⟩ := h.each j g T p h1 h2 h3
  exact ⟨rs, us, ts, ws, ht.keeps hbut (.refl _ _) (by simp)⟩
theorem RunAt.short {ow : Nat → Nat} {w w' : World} {B b j p : Nat} {gs : List Gr} {ps : List Nat} {s : RS} {v : Value} {g : Gr} {T : TS} (h : RunAt ow w B b gs ps s v) (hg : gs[j]? = some g) (hp : ps[j]? = some p)
    {ow' : Nat → Nat} {v' rs us ts ws : Value} (he : Ext ow ow' w) (h1 : WAt ow' w' b (leapT g s.n s.W T).2.1 (leapT g s.n s.W T).1 v') (h2 : TAt ow' w' b j p g (leapT g s.n s.W T).2.2.1 rs us ts ws) (hk : Kp ow j w w') :
    EndAt ow' w' b gs ps ⟨(leapT g s.n s.W T).1, (leapT g s.n s.W T).2.1, s.T.set j (leapT g s.n s.W T).2.2.1⟩ v' := by
  refine ⟨h1, by simpa using h.tlen, fun i g' T' p' e1 e2 e3 => ?_⟩
  simp only [List.getElem?_set] at e2
  by_cases hij : j = i
  · subst hij
    rw [if_pos rfl] at e2
    split at e2
    · cases e2
      rw [hg] at e1; cases e1
      rw [hp] at e3; cases e3
      exact ⟨rs, us, ts, ws, h2⟩
    · cases e2
  · rw [if_neg hij] at e2
    obtain ⟨⟨a, b', c, d, ht⟩, -⟩ := h.each i g' T' p' e1 e2 e3
    exact ⟨a, b', c, d, ht.keeps hk.but he (mine_far hij)⟩
end Go.Proofs.Ytijciojipcgiaaa
namespace Go.Proofs.Ytijciojipcgiaaa
open Go Go.Lib Go.RowKit

theorem runP_tlen (gs : List Gr) : ∀ (ps : List Int) (s : RS), (runP gs ps s).1.T.length = s.T.length := fun ps s => (runP_le gs ps s).len
/-- What the law asks of one thread. -/
structure Goes (x y : TS) : Prop where
  len : x.told.length ≤ y.told.length
  told : y.told.take x.told.length = x.told
  fin : x.fin ≠ 0 → x.fin = y.fin
theorem TS.Le.goes {x y : TS} (h : x.Le y) : Goes x y := by
  obtain ⟨l, hl⟩ := h.told
  exact ⟨by rw [hl, List.length_append]; omega, by rw [hl, List.take_left], fun q => (h.fin q).symm⟩
theorem goes_each (gs : List Gr) (ps qs : List Int) (s : RS) (i : Nat) (x y : TS) (hx : (runP gs ps s).1.T[i]? = some x) (hy : (runP gs (ps ++ qs) s).1.T[i]? = some y) : Goes x y := ((goes gs ps qs s).1.each i x y hx hy).goes
/-- One more pick. -/
theorem runP_snoc (gs : List Gr) (ps : List Int) (p : Int) (s s' : RS) (h : runP gs ps s = (s', false)) : runP gs (ps ++ [p]) s = runP gs [p] s' := by
  rw [runP_append, h]
  rfl
theorem runP_cut (gs : List Gr) (ps qs : List Int) (s s' : RS) (h : runP gs ps s = (s', true)) : runP gs (ps ++ qs) s = (s', true) := by
  rw [runP_append, h]
  rfl
theorem runP_out (gs : List Gr) (p : Int) (s : RS) (h : p < 0 ∨ (gs.length : Int) ≤ p) : runP gs [p] s = (s, false) := by
  rw [runP, if_pos h]
  rfl
theorem runP_in (gs : List Gr) (p : Nat) (s : RS) (g : Gr) (T : TS) (hg : gs[p]? = some g) (hT : s.T[p]? = some T) :
    runP gs [(p : Int)] s = (⟨(leapT g s.n s.W T).1, (leapT g s.n s.W T).2.1, s.T.set p (leapT g s.n s.W T).2.2.1⟩, !(leapT g s.n s.W T).2.2.2) := by
  have hlt := (List.getElem?_eq_some_iff.1 hg).1
  rw [runP, if_neg (by omega), Int.toNat_natCast, hg, hT]
  dsimp only
  cases (leapT g s.n s.W T).2.2.2
  · rfl
  · rfl
end Go.Proofs.Ytijciojipcgiaaa
