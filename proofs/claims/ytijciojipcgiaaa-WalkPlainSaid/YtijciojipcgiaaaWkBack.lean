/- A region that draws its order, whose loads are taken first under a condition on the world that need hold only till its last operations begin. Nothing here speaks of the program. -/
import Derived.OrdersHeld
import Derived.Deep.RegionHeld
import Derived.RegionTactic
import Derived.WalkKit
import Derived.Lib.Hide
import Derived.Test.YtijciojipcgiaaaRows
import Derived.Test.YtijciojipcgiaaaWkLives
import Derived.Test.YtijciojipcgiaaaIrSizes
import Derived.Test.YtijciojipcgiaaaIrBoth
import Derived.LoopTactic
import Derived.LoopN
import Derived.WalkSpells
import Derived.WalkLawsBesides
import Derived.Deep.DrawnRows
import Derived.Deep.RegionHeld3
import Derived.IntWalk
import Derived.RangeFuncNested
import Derived.RangeFuncBound
import Derived.RangeFuncCalls
import Derived.RangeFuncLeaves
import Derived.Shelf.Abstract
import Derived.Shelf.RegionOpen
import Derived.OwnWalkIn
import Derived.TacticsInMore
import Derived.LoopNIn
import Derived.LoopIn
namespace Go.Proofs.Ytijciojipcgiaaa
open Go Go.RowKit

section
variable {P : Program} {ops : Array Oper} {Q : Exit → Act → World → Prop} {md : Region.Mode} {S : World → Prop} {late : Nat → Bool}

/-- Whatever order is picked from here on; behind every operation that is not late S holds. -/
def wpAnyL (P : Program) (md : Region.Mode) (ops : Array Oper) (Q : Exit → Act → World → Prop) (S : World → Prop) (late : Nat → Bool) : Nat → Array Bool → Act → World → Prop
  | 0, listed, a, w => Region.ready md ops listed = [] ∧ Q .normal a w
  | fuel + 1, listed, a, w =>
    (Region.ready md ops listed = [] → Q .normal a w) ∧
    ∀ i ∈ Region.ready md ops listed, wpOp P ops Q i (fun a' w' => if late i = true then wpAny P md ops Q fuel (listed.setIfInBounds i true) a' w' else S w' ∧ wpAnyL P md ops Q S late fuel (listed.setIfInBounds i true) a' w') a w

theorem wpAny_of_late : ∀ (fuel : Nat) (listed : Array Bool) (a : Act) (w : World), wpAnyL P md ops Q S late fuel listed a w → wpAny P md ops Q fuel listed a w
  | 0, _, _, _, h => h
  | fuel + 1, _, _, _, h => ⟨h.1, fun i hi => wpOp_mono (fun a' w' h' => by
      split at h'
      · exact h'
      · exact wpAny_of_late fuel _ a' w' h'.2) (h.2 i hi)⟩

theorem wpAnyL_first {i : Nat} {oi : Oper} {v : Value} (hi : ops[i]? = some oi) (hsel : ∀ (j : Nat) (o : Oper) cs b, ops[j]? = some o → o.op ≠ .select cs b)
    (hQ : ∀ c a w, Q (.panic c) (a.put oi.dst v) w → Q (.panic c) a w) (hil : late i = false) (hlate : ∀ j oj, ops[j]? = some oj → late j = true → ∃ e ∈ oj.after, Region.binds md e = true ∧ e.on = i) :
    ∀ (fuel : Nat) (listed : Array Bool) (a : Act) (w : World),
      (∀ j oj, ops[j]? = some oj → j ≠ i → listed.getD j true = false → (∀ e ∈ oj.after, Region.binds md e = true → e.on ≠ i) → oi.apart ops oj = true) →
      i ∈ Region.ready md ops listed → YieldsIf P ops S oi v a → S w →
      wpAnyL P md ops Q S late fuel (listed.setIfInBounds i true) (a.put oi.dst v) w → wpAnyL P md ops Q S late (fuel + 1) listed a w := by
  intro fuel
  induction fuel with
  | zero =>
    intro listed a w _ hr hy hS H
    refine ⟨fun h => (by rw [h] at hr; cases hr), fun j hj => ?_⟩
    by_cases hji : j = i
    · subst hji; exact hy.wpOp hi hS (by rw [hil]; exact ⟨hS, H⟩)
    · have := ready_mono hj hji
      rw [H.1] at this
      cases this
  | succ fuel ih =>
    intro listed a w hfree hr hy hS H
    refine ⟨fun h => (by rw [h] at hr; cases hr), fun j hj => ?_⟩
    by_cases hji : j = i
    · subst hji; exact hy.wpOp hi hS (by rw [hil]; exact ⟨hS, H⟩)
    · have h1 := H.2 j (ready_mono hj hji)
      obtain ⟨hjun, oj, hoj, hall⟩ := mem_ready.1 hj
      have hnot : ∀ e ∈ oj.after, Region.binds md e = true → e.on ≠ i := fun e he hb heq => by
        have h1 := hall e he hb
        have h0 := (mem_ready.1 hr).1
        rw [heq] at h1
        rcases Nat.lt_or_ge i listed.size with h' | h'
        · simp [h'] at h0 h1; rw [h0] at h1; cases h1
        · simp [Array.getElem?_eq_none h'] at h1
      have hjl : late j = false := by
        cases hl : late j with
        | false => rfl
        | true =>
          obtain ⟨e, he, hb, heq⟩ := hlate j oj hoj hl
          exact absurd heq (hnot e he hb)
      rw [hjl] at h1 ⊢
      have h2 := wpOp_putIf hoj (hfree j oj hoj hji hjun hnot) (fun cs b => hsel i oi cs b hi) (fun cs b => hsel j oj cs b hoj) hQ hy h1
      have hfree' : ∀ k ok, ops[k]? = some ok → k ≠ i → (listed.setIfInBounds j true).getD k true = false →
          (∀ e ∈ ok.after, Region.binds md e = true → e.on ≠ i) → oi.apart ops ok = true := fun k ok hk hki hun hno => by
        refine hfree k ok hk hki ?_ hno
        by_cases hjk : j = k
        · subst hjk; exact hjun
        · rw [getD_set_ne true hjk] at hun; exact hun
      refine wpOp_mono (fun a' w' h3 => ?_) h2
      refine ⟨h3.2.1, ih (listed.setIfInBounds j true) a' w' hfree' (ready_mono hr (Ne.symm hji)) h3.1 h3.2.1 ?_⟩
      rw [Array.setIfInBounds_comm _ _ hji]
      exact h3.2.2

/-- Every late operation waits for number i. -/
def waits (md : Region.Mode) (ops : Array Oper) (late : Nat → Bool) (i : Nat) : Bool := (List.range ops.size).all fun j => !late j || (match ops[j]? with | some oj => oj.after.any fun e => Region.binds md e && e.on == i | none => true)
theorem waits_spec {i : Nat} (h : waits md ops late i = true) : ∀ j oj, ops[j]? = some oj → late j = true → ∃ e ∈ oj.after, Region.binds md e = true ∧ e.on = i := by
  intro j oj hoj hl
  have hj : j < ops.size := (Array.getElem?_eq_some_iff.1 hoj).1
  have := List.all_eq_true.1 h j (List.mem_range.2 hj)
  rw [hl, hoj] at this
  simp only [Bool.not_true, Bool.false_or] at this
  obtain ⟨e, he, hb⟩ := Array.any_eq_true'.1 this
  simp only [Bool.and_eq_true, beq_iff_eq] at hb
  exact ⟨e, he, hb⟩

theorem wpAnyL_take {i : Nat} {oi : Oper} {v : Value} {fuel : Nat} {listed : Array Bool} {a : Act} {w : World} (hi : ops[i]? = some oi)
    (hs : Region.noSelect ops = true) (hf : Region.free md ops listed i = true) (hr : (Region.ready md ops listed).contains i = true) (hil : late i = false) (hlw : waits md ops late i = true)
    (hQ : ∀ c a w, Q (.panic c) (a.put oi.dst v) w → Q (.panic c) a w) (hy : YieldsIf P ops S oi v a) (hS : S w)
    (h : wpAnyL P md ops Q S late fuel (listed.setIfInBounds i true) (a.put oi.dst v) w) : wpAnyL P md ops Q S late (fuel + 1) listed a w :=
  wpAnyL_first hi (Region.noSelect_spec hs) hQ hil (waits_spec hlw) fuel listed a w (Region.free_spec hi hf) (by simpa using hr) hy hS h

/-- Each of the operations rs comes up next. -/
def AllReadyL (P : Program) (md : Region.Mode) (ops : Array Oper) (Q : Exit → Act → World → Prop) (S : World → Prop) (late : Nat → Bool) (fuel : Nat) (listed : Array Bool) (a : Act) (w : World) (rs : List Nat) : Prop :=
  ∀ i ∈ rs, wpOp P ops Q i (fun a' w' => if late i = true then wpAny P md ops Q fuel (listed.setIfInBounds i true) a' w' else S w' ∧ wpAnyL P md ops Q S late fuel (listed.setIfInBounds i true) a' w') a w
theorem AllReadyL.nil {fuel : Nat} {listed : Array Bool} {a : Act} {w : World} : AllReadyL P md ops Q S late fuel listed a w [] := fun _ h => by cases h
theorem AllReadyL.cons {fuel : Nat} {listed : Array Bool} {a : Act} {w : World} {i : Nat} {o : Oper} {rs : List Nat} (ho : ops[i]? = some o) (hl : late i = false)
    (h : ∀ K' : Act → World → Prop, Shut (∀ a w, S w → (S w → wpAnyL P md ops Q S late fuel (listed.setIfInBounds i true) a w) → K' a w) → if Region.wanted o (yielded ops a.tmps) = true then Oper.wp P o a w K' Q else K' (a.put o.dst undef) w)
    (hs : AllReadyL P md ops Q S late fuel listed a w rs) : AllReadyL P md ops Q S late fuel listed a w (i :: rs) := fun j hj => by
  rcases List.mem_cons.1 hj with rfl | hj
  · rw [hl]
    exact wpOp_step ho (fun K' hK => h K' (fun a w hS hW => hK a w ⟨hS, hW hS⟩))
  · exact hs j hj
theorem wpAnyL_ready {rs : List Nat} {fuel : Nat} {listed : Array Bool} {a : Act} {w : World} (hr : Region.ready md ops listed = rs) (hne : rs ≠ [])
    (h : AllReadyL P md ops Q S late fuel listed a w rs) : wpAnyL P md ops Q S late (fuel + 1) listed a w :=
  ⟨fun h0 => absurd (hr ▸ h0) hne, hr ▸ h⟩
/-- Only late ones are left: S is asked no more. -/
theorem wpAnyL_only {rs : List Nat} {fuel : Nat} {listed : Array Bool} {a : Act} {w : World} (hr : Region.ready md ops listed = rs) (hne : rs ≠ []) (hl : rs.all late = true)
    (h : wpAny P md ops Q (fuel + 1) listed a w) : wpAnyL P md ops Q S late (fuel + 1) listed a w := by
  refine ⟨fun h0 => absurd (hr ▸ h0) hne, fun i hi => ?_⟩
  have hli : late i = true := List.all_eq_true.1 hl i (by rw [← hr]; exact hi)
  have := h.2 i hi
  rw [hli]
  exact this
/-- One operation comes up, and no other may. -/
theorem wpAny_one {i : Nat} {o : Oper} {fuel : Nat} {listed : Array Bool} {a : Act} {w : World} (hr : Region.ready md ops listed = [i]) (ho : ops[i]? = some o)
    (h : ∀ K' : Act → World → Prop, Shut (∀ a w, wpAny P md ops Q fuel (listed.setIfInBounds i true) a w → K' a w) → if Region.wanted o (yielded ops a.tmps) = true then Oper.wp P o a w K' Q else K' (a.put o.dst undef) w) : wpAny P md ops Q (fuel + 1) listed a w :=
  wpAny_ready hr (by simp) (AllReady.cons ho h AllReady.nil)
theorem wp_region_late {id : Nat} {a : Act} {w : World} (late : Nat → Bool) (hm : P.follows .mixedOrders = true) (hS : S w.drew)
    (h : S w.drew → wpAnyL P .any ops Q S late ops.size (Array.replicate ops.size false) a w.drew) : (Code.region id ops true).wp P Q a w :=
  wp_region_any hm (wpAny_of_late _ _ _ _ (h hS))
end
end Go.Proofs.Ytijciojipcgiaaa
namespace Go.Proofs.Ytijciojipcgiaaa
open Go.RowKit
set_option maxRecDepth 100000
attribute [local go_sem ↓] bld_eq bls_eq

theorem cellI {w : World} {b : Nat} {cs : Array Value} {T : TypeId} {fr : Nat × Nat} (h : w.heap[b]? = some (.cells cs T fr)) (i : Nat) (u : Value) (hi : cs[i]? = some u) : w.cell? ⟨b, i, none⟩ = some u := by rw [Lib.cell_of_heap h]; exact hi
theorem TAt.cells {ow : Nat → Nat} {w : World} {b j p : Nat} {g : Gr} {T : TS} {rs us ts ws : Value} (h : TAt ow w b j p g T rs us ts ws) :
    w.cell? ⟨p, 0, none⟩ = some (.pointer (some ⟨b, 0, none⟩)) ∧ w.cell? ⟨p, 3, none⟩ = some g.bv ∧ w.cell? ⟨p, 4, none⟩ = some rs ∧ w.cell? ⟨p, 5, none⟩ = some (.int .i64 (T.bi : Int)) ∧ w.cell? ⟨p, 6, none⟩ = some (.int .i64 (T.ii : Int)) ∧ w.cell? ⟨p, 7, none⟩ = some (.bool T.inside) ∧ w.cell? ⟨p, 8, none⟩ = some (.int .i64 (T.since : Int)) ∧
    w.cell? ⟨p, 9, none⟩ = some us ∧ w.cell? ⟨p, 10, none⟩ = some ts ∧ w.cell? ⟨p, 11, none⟩ = some ws ∧ w.cell? ⟨p, 12, none⟩ = some (.int .u8 T.fin) :=
  ⟨cellI h.box 0 _ rfl, cellI h.box 3 _ rfl, cellI h.box 4 _ rfl, cellI h.box 5 _ rfl, cellI h.box 6 _ rfl, cellI h.box 7 _ rfl, cellI h.box 8 _ rfl, cellI h.box 9 _ rfl, cellI h.box 10 _ rfl, cellI h.box 11 _ rfl, cellI h.box 12 _ rfl⟩
theorem WAt.cells {ow : Nat → Nat} {w : World} {b n : Nat} {W : WS} {v : Value} (h : WAt ow w b W n v) : w.cell? ⟨b, 0, none⟩ = some v ∧ w.cell? ⟨b, 1, none⟩ = some (.int .i64 (n : Int)) ∧ w.cell? ⟨b, 2, none⟩ = some (.bool W.strange) :=
  ⟨cellI h.box 0 _ rfl, cellI h.box 1 _ rfl, cellI h.box 2 _ rfl⟩
theorem wds_cell {w : World} {g : Nat} {l : List Int} {T : TypeId} {fr : Nat × Nat} (h : w.heap[g]? = some (.cells (wds l).toArray T fr)) (i : Nat) (x : Int) (hi : l[i]? = some x) : w.cell? ⟨g, i, none⟩ = some (.int .i64 x) := by
  rw [Lib.cell_of_heap h]
  simp [wds, hi]
/-- Each part of a thread keeps still by itself. -/
theorem TAt.setR {ow : Nat → Nat} {w : World} {b j p : Nat} {g : Gr} {T : TS} {rs us ts ws : Value} (h : TAt ow w b j p g T rs us ts ws) (rg a : Nat) (hrg : rs = .slice (some ⟨rg, 0, none⟩) T.regs.length T.regs.length) (x : Int) :
    TAt ow (w.setCell ⟨rg, a, none⟩ (.int .i64 x)) b j p g (T.setR (a : Int) x) rs us ts ws ∧ But ow [11 + 8 * j] w (w.setCell ⟨rg, a, none⟩ (.int .i64 x)) := by
  obtain ⟨rg', r1, r2, r3⟩ := h.regs
  have e : rg' = rg := by rw [r1] at hrg; cases hrg; rfl
  subst e
  have hb : But ow [11 + 8 * j] w (w.setCell ⟨rg', a, none⟩ (.int .i64 x)) := (But.of (Below.refl _ _)).set (p := ⟨rg', a, none⟩) (by simp [r3]) _
  have hno : ∀ k, k ≠ 1 → 10 + k + 8 * j ∉ [11 + 8 * j] := fun k hk q => by have := List.mem_singleton.1 q; omega
  refine ⟨⟨?_, h.lab, ⟨rg', ?_, ?_, r3⟩, undo_keep h.undo hb (.refl _ _) (hno 2 (by omega)) (hno 5 (by omega)), h.told.keeps hb (.refl _ _) (hno 3 (by omega)), h.waiting.keeps hb (.refl _ _) (hno 4 (by omega))⟩, hb⟩
  · exact (hb.block p (heap_lt h.box) (by rw [h.lab]; exact hno 0 (by omega))).trans h.box
  · rw [r1]; simp [TS.setR]
  · rw [heap_setCell_same w _ a _ _ _ r2]
    simp [TS.setR, wds, List.map_set]
theorem below_drewN' {B : Nat} {a w : World} (h : Below B a w) : Below B a w.drew := ⟨h.os, h.tape, h.output, h.size, h.block⟩
/-- What a deed answers. -/
def StepE (ow : Nat → Nat) (b j p : Nat) (g : Gr) (n : Nat) (r : WS × TS × Bool) (w : World) (e : Ending) (w' : World) : Prop :=
  e = .returned (.bool r.2.2) ∧ ∃ ow' v rs us ts ws, Ext ow ow' w ∧ WAt ow' w' b r.1 n v ∧ TAt ow' w' b j p g r.2.1 rs us ts ws ∧ Kp ow j w w'
theorem setR_end {ow : Nat → Nat} {w u u' : World} {b j p n a rg : Nat} {g : Gr} {W : WS} {T : TS} {v rs us ts ws : Value} (hb : Below w.heap.size w u) (h1 : WAt ow u b W n v) (h2 : TAt ow u b j p g T rs us ts ws) (hrg : rs = .slice (some ⟨rg, 0, none⟩) T.regs.length T.regs.length) (x : Int) (hu : u' = (u.setCell ⟨rg, a, none⟩ (.int .i64 x)).drew) :
    StepE ow b j p g n (W, T.setR (a : Int) x, false) w (.returned (.bool false)) u' := by
  subst hu
  obtain ⟨h3, h4⟩ := h2.setR rg a hrg x
  have hd : But ow [] (u.setCell ⟨rg, a, none⟩ (.int .i64 x)) (u.setCell ⟨rg, a, none⟩ (.int .i64 x)).drew := But.of (below_drewN' (Below.refl _ _))
  refine ⟨rfl, ow, v, rs, us, ts, ws, .refl _ _, ?_, h3.keeps hd (.refl _ _) (by simp), ?_⟩
  · exact (h1.keeps h4 (.refl _ _) (by simp; omega) (by simp; omega)).keeps hd (.refl _ _) (by simp) (by simp)
  · exact ((Kp.of hb).trans (.refl _ _) (h4.kp (by intro l hl; rw [List.mem_singleton.1 hl]; right; right; omega))).drew
set_option maxHeartbeats 8000000 in
theorem constant_any (ow : Nat → Nat) (w : World) (b j p n : Nat) (g : Gr) (W : WS) (T : TS) (v rs us ts ws : Value) (k o : Int) (a : Nat) (bb cc x : Int) (h1 : WAt ow w b W n v) (h2 : TAt ow w b j p g T rs us ts ws) (ha : a < T.regs.length) :
    Calls Try.prog 29 #[.pointer (some ⟨p, 0, none⟩), .agg #[.int .u8 k, .int .u8 o, .int .i64 (a : Int), .int .i64 bb, .int .i64 cc, .int .i64 x]] w (StepE ow b j p g n (W, T.setR (a : Int) x, false) w) := by
  obtain ⟨rg, er, hrg, hrl⟩ := h2.regs
  have her := er
  obtain ⟨U, hU⟩ : ∃ U, U = w.alloc (.cells #[.int .u8 k, .int .u8 o, .int .i64 (a : Int), .int .i64 bb, .int .i64 cc, .int .i64 x] 53) := ⟨_, rfl⟩
  have hBU : Below w.heap.size w U := by rw [hU]; exact below_box w _
  have hzU : U.heap.size = w.heap.size + 1 := by rw [hU]; simp
  have hO : U.heap[w.heap.size]? = some (.cells #[.int .u8 k, .int .u8 o, .int .i64 (a : Int), .int .i64 bb, .int .i64 cc, .int .i64 x] 53 (0, 0)) := by rw [hU]; exact (MapKept.heap_alloc _ _).1
  have h1U := h1.keeps (But.of (ls := []) hBU) (.refl _ _) (by simp) (by simp)
  have h2U := h2.keeps (But.of (ls := []) hBU) (.refl _ _) (by simp)
  have hlp : p < w.heap.size := heap_lt h2.box
  have hlb : b < w.heap.size := heap_lt h1.box
  have hlr : rg < w.heap.size := heap_lt hrg
  have hrgU := (hBU.block rg hlr).trans hrg
  obtain ⟨d0, d3, d4, d5, d6, d7, d8, d9, d10, d11, d12⟩ := h2U.cells
  obtain ⟨e0, e1, e2⟩ := h1U.cells
  rw [her] at d4
  obtain ⟨i0, i1, i2, i3, i4, i5⟩ := own6 hO
  have fr := fun (q : Nat) => Lib.frozen_of_heap hrgU q
  obtain ⟨NR, hNR⟩ : ∃ N, N = T.regs.length := ⟨_, rfl⟩
  have hax : a < NR := by rw [hNR]; exact ha
  have f0 := fr a
  obtain ⟨y, hy⟩ : ∃ y, T.regs[a]? = some y := ⟨_, List.getElem?_eq_getElem ha⟩
  have s0 := wds_cell hrgU a y hy
  have H1 := Lib.hid h1U
  have H2 := Lib.hid h2U
  have HB := Lib.hid hBU
  have HU := Lib.hid hU
  have HER := Lib.hid her
  rw [← hNR] at d4
  have HNR := Lib.hid hNR
  clear d3 d5 d6 d7 d8 d9 d10 d11 d12 e0 e1 e2
  clear h1 h2 h1U h2U hBU hO hrg hrgU hrl er her hU hNR ha fr hy
  go_enter Try.func29, Try.ntmps29
  go_wp2_with fail
  rw [← HU.out]
  refine wp_region_late (S := SameTo (w.heap.size + 1) U) (fun j => decide (8 ≤ j)) (by kernel_rfl) (SameTo.drew _ _) (fun hSw => ?_)
  refine wpAnyL_take (i := 0) (v := .pointer (some ⟨p, 0, none⟩)) rfl (by kernel_rfl) (by kernel_rfl) (by kernel_rfl) rfl (by kernel_rfl) (fun _ _ _ h => h) (Or.inl ⟨by rfl, fun W hW => ?_⟩) hSw ?_
  · first | (go_simp; done) | rfl
  try simp only [Act.put, List.setIfInBounds_toArray]
  refine wpAnyL_take (i := 1) (v := .pointer (some ⟨p, 0, none⟩)) rfl (by kernel_rfl) (by kernel_rfl) (by kernel_rfl) rfl (by kernel_rfl) (fun _ _ _ h => h) (Or.inl ⟨by rfl, fun W hW => ?_⟩) hSw ?_
  · first | (go_simp; done) | rfl
  try simp only [Act.put]
  refine wpAnyL_take (i := 2) (v := .pointer (some ⟨p, 4, none⟩)) rfl (by kernel_rfl) (by kernel_rfl) (by kernel_rfl) rfl (by kernel_rfl) (fun _ _ _ h => h) (Or.inl ⟨by rfl, fun W hW => ?_⟩) hSw ?_
  · first | (go_simp; done) | rfl
  try simp only [Act.put]
  refine wpAnyL_take (i := 3) (v := .slice (some ⟨rg, 0, none⟩) NR NR) rfl (by kernel_rfl) (by kernel_rfl) (by kernel_rfl) rfl (by kernel_rfl) (fun _ _ _ h => h) (Or.inl ⟨by rfl, fun W hW => ?_⟩) hSw ?_
  · have d4 := hW.cell (by dsimp only; omega) d4
    first | (go_simp; done) | rfl
  try simp only [Act.put]
  refine wpAnyL_take (i := 4) (v := .pointer (some ⟨w.heap.size, 2, none⟩)) rfl (by kernel_rfl) (by kernel_rfl) (by kernel_rfl) rfl (by kernel_rfl) (fun _ _ _ h => h) (Or.inl ⟨by rfl, fun W hW => ?_⟩) hSw ?_
  · first | (go_simp; done) | rfl
  try simp only [Act.put]
  refine wpAnyL_take (i := 5) (v := .int .i64 (a : Int)) rfl (by kernel_rfl) (by kernel_rfl) (by kernel_rfl) rfl (by kernel_rfl) (fun _ _ _ h => h) (Or.inl ⟨by rfl, fun W hW => ?_⟩) hSw ?_
  · have i2 := hW.cell (by dsimp only; omega) i2
    first | (go_simp; done) | rfl
  try simp only [Act.put]
  refine wpAnyL_take (i := 6) (v := .pointer (some ⟨w.heap.size, 5, none⟩)) rfl (by kernel_rfl) (by kernel_rfl) (by kernel_rfl) rfl (by kernel_rfl) (fun _ _ _ h => h) (Or.inl ⟨by rfl, fun W hW => ?_⟩) hSw ?_
  · first | (go_simp; done) | rfl
  try simp only [Act.put]
  refine wpAnyL_take (i := 7) (v := .int .i64 x) rfl (by kernel_rfl) (by kernel_rfl) (by kernel_rfl) rfl (by kernel_rfl) (fun _ _ _ h => h) (Or.inl ⟨by rfl, fun W hW => ?_⟩) hSw ?_
  · have i5 := hW.cell (by dsimp only; omega) i5
    first | (go_simp; done) | rfl
  try simp only [Act.put]
  refine wpAnyL_only (rs := [8]) (by kernel_rfl) (by simp) (by rfl) ?_
  refine wpAny_one (i := 8) (by kernel_rfl) rfl (fun J hK => ?_)
  rw [if_pos (by rfl)]
  go_simp
  refine hK.out _ _ ?_
  clear hK J
  try simp only [Act.put, List.setIfInBounds_toArray, List.set_cons_zero, List.set_cons_succ]
  refine wpAny_one (i := 9) (by kernel_rfl) rfl (fun J hK => ?_)
  rw [if_pos (by rfl)]
  go_simp
  refine hK.out _ _ ?_
  clear hK J
  try simp only [Act.put, List.setIfInBounds_toArray, List.set_cons_zero, List.set_cons_succ]
  refine wpAny_done (by kernel_rfl) ?_ _
  go_wp2_with fail
  go_ret
  exact setR_end HB.out H1.out H2.out HER.out x rfl
end Go.Proofs.Ytijciojipcgiaaa
namespace Go.Proofs.Ytijciojipcgiaaa
open Go.RowKit Go.Shelf
theorem cell_of_same {w w' : World} {k : Nat} (h : w'.heap[k]? = w.heap[k]?) (i : Nat) : w'.cell? ⟨k, i, none⟩ = w.cell? ⟨k, i, none⟩ := by simp [World.cell?, h]
attribute [local go_sem] Oper.semAt_some

/-- The slice's own two blocks are as they were. -/
def KeepsS (Bs : Nat) (ao : Option Addr) (W W' : World) : Prop := W'.heap[Bs]? = W.heap[Bs]? ∧ ∀ a, ao = some a → W'.heap[a.block]? = W.heap[a.block]?
theorem KeepsS.trans {Bs : Nat} {ao : Option Addr} {A B C : World} (h : KeepsS Bs ao A B) (k : KeepsS Bs ao B C) : KeepsS Bs ao A C := ⟨k.1.trans h.1, fun a e => (k.2 a e).trans (h.2 a e)⟩
theorem KeepsS.refl (Bs : Nat) (ao : Option Addr) (A : World) : KeepsS Bs ao A A := ⟨rfl, fun _ _ => rfl⟩
/-- What the k-th round is told. -/
def backV (zs : List Value) (len k : Nat) : Array Value := #[.int .i64 ((len - 1 - k : Nat) : Int), zs[len - 1 - k]?.getD .nilFunc]

set_option maxRecDepth 100000 in
set_option maxHeartbeats 4000000 in
theorem back1_in (n : Nat) (hn : 1 ≤ n) (l Bs len cap : Nat) (ao : Option Addr) (zs : List Value) (hlen : len ≤ 2000000) (J : Nat → World → Prop)
    (hY : ∀ k W, J k W → k < len → YieldAt Fence.wide (n - 1) Try.prog l (backV zs len k) W fun e W' => e = .returned (.bool true) ∧ J (k + 1) W' ∧ KeepsS Bs ao W W')
    (W : World) (hBs : W.cell? ⟨Bs, 0, none⟩ = some (.slice ao len cap)) (hc : ∀ j, j < len → ∃ b off, ao = some ⟨b, off, none⟩ ∧ W.cell? ⟨b, off + j, none⟩ = some (zs[j]?.getD .nilFunc)) (h0 : J 0 W) :
    CallsIn Fence.wide n Try.prog 80 #[.func (.yield l) #[] #[], .pointer (some ⟨Bs, 0, none⟩)] W fun e W' => (∃ v, e = .returned v) ∧ J len W' := by
  refine callsIn_of_wp Try.func80 rfl trivial ?_ rfl
  simp only [Try.ntmps80, List.size_toArray, List.length_cons, List.length_nil, Nat.reduceAdd, Nat.reduceSub, Array.replicate_succ, Array.replicate_zero, List.push_toArray, List.append_toArray, List.nil_append, List.cons_append]
  have HC := Lib.hid hc
  clear hc
  gi_wp2
  gi_loopw [3] (fun i wr => ∃ r : Nat, r ≤ len ∧ i = .int .i64 ((r : Int) - 1) ∧ J (len - r) wr ∧ KeepsS Bs ao W wr) (fun i _ => (intOf i + 1).toNat)
  case atStart => exact ⟨len, Nat.le_refl _, rfl, by rw [Nat.sub_self]; exact h0, KeepsS.refl _ _ _⟩
  case round =>
    obtain ⟨r, hr, rfl, hJs, hkp⟩ := hrel
    have hbs := (cell_of_same hkp.1 0).trans hBs
    rcases r with _ | q
    · gi_wp2
      go_end0
      exact ⟨⟨_, rfl⟩, hJs⟩
    · obtain ⟨b, off, hao, hcq⟩ := HC.out q (by omega)
      subst hao
      have hcq2 := (cell_of_same (hkp.2 _ rfl) (off + q)).trans hcq
      rw [show ((q + 1 : Nat) : Int) - 1 = (q : Int) by omega]
      have hy := hY _ wr hJs (by omega)
      rw [backV, show len - 1 - (len - (q + 1)) = q by omega, show len - (q + 1) + 1 = len - q by omega] at hy
      obtain ⟨fn, tmps, assign, body, hy, hR⟩ := hy
      clear hcq hBs
      gi_wp2
      refine hR.mono ?_
      rintro e W3 ⟨rfl, hJ3, hk3⟩
      have HJ3 := Lib.hid hJ3
      clear hJ3
      gi_wp2
      go_roundw
      case rel => exact ⟨q, by omega, rfl, HJ3.out, hkp.trans hk3⟩
      case measure => simp [intOf]

set_option maxHeartbeats 1000000 in
theorem back_any (ao : Option Addr) (len cap : Nat) (w : World) : Calls Try.prog 71 #[.slice ao len cap] w fun e w' => e = .returned (.func (.func 80) #[] #[.pointer (some ⟨w.heap.size, 0, none⟩)]) ∧ w' = w.alloc (.cells #[.slice ao len cap] 78) := by
  have hmf : ∀ (fn : Go.Fn) (first cap : Array Value) (w : World), (Instr.makeFunc fn first cap).run Try.prog w = .ok (.func fn first cap) w := fun _ _ _ _ => rfl
  go_enter Try.func71, Try.ntmps71
  go_wp2_with fail
  go_ret
  exact ⟨rfl, rfl⟩
end Go.Proofs.Ytijciojipcgiaaa
