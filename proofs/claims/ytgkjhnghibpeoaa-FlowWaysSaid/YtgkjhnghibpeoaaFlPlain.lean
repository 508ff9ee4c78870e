/- Graphs' ways: what is reached, in what order. Nothing here speaks of the program. -/
import Derived.Test.YtgkjhnghibpeoaaRfBeh
namespace Go.Proofs.Ytgkjhnghibpeoaa
open Go Go.Lib

/-- The blocks to which one leads, each once. -/
def nextF (b : Bk) : List Int := if b.last = 3 then [] else if b.last = 1 ∨ b.yes = b.no then [b.yes] else [b.yes, b.no]
/-- A block is reached. -/
inductive Rc (bl : List Bk) : Nat → Prop
  | base : Rc bl 0
  | step {t : Nat} {b : Bk} {y : Int} : Rc bl t → bl[t]? = some b → y ∈ nextF b → Rc bl y.toNat
/-- What is known of the blocks of a graph that may be. -/
structure FOk (bl : List Bk) : Prop where
  pos : 0 < bl.length
  room : bl.length ≤ 4096
  last : ∀ b ∈ bl, b.last = 1 ∨ b.last = 2 ∨ b.last = 3
  next : ∀ b ∈ bl, ∀ y ∈ nextL b, 0 ≤ y ∧ y < (bl.length : Int)
  side : ∀ t, ¬ (Rch bl t 1 ∧ Rch bl t 2)
theorem nextF_mem {b : Bk} (h : b.last = 1 ∨ b.last = 2 ∨ b.last = 3) {y : Int} : y ∈ nextF b ↔ y ∈ nextL b := by
  unfold nextF nextL
  rcases h with h | h | h
  · simp [h]
  · by_cases e : b.yes = b.no
    · simp [h, e]
    · simp [h, e]
  · simp [h]
theorem FOk.lt {bl : List Bk} (h : FOk bl) {t : Nat} {b : Bk} (hb : bl[t]? = some b) {y : Int} (hy : y ∈ nextF b) : 0 ≤ y ∧ y < (bl.length : Int) :=
  h.next b (List.mem_of_getElem? hb) y ((nextF_mem (h.last b (List.mem_of_getElem? hb))).1 hy)
theorem Rc.lt {bl : List Bk} (h : FOk bl) {t : Nat} (hr : Rc bl t) : t < bl.length := by
  cases hr with
  | base => exact h.pos
  | step _ hb hy => have := h.lt hb hy; omega
theorem Rc.side {bl : List Bk} (h : FOk bl) {t : Nat} (hr : Rc bl t) : ∃ s, Rch bl t s := by
  induction hr with
  | base => exact ⟨1, .base⟩
  | step _ hb hy ih => obtain ⟨s, hs⟩ := ih; exact ⟨_, hs.step hb ((nextF_mem (h.last _ (List.mem_of_getElem? hb))).1 hy)⟩
theorem Rch.rc {bl : List Bk} (h : FOk bl) {t s : Nat} (hr : Rch bl t s) : Rc bl t := by
  induction hr with
  | base => exact .base
  | step _ hb hy ih => exact ih.step hb ((nextF_mem (h.last _ (List.mem_of_getElem? hb))).2 hy)

/-! ### Rows of truths -/
def cntT : List Bool → Nat
  | [] => 0
  | b :: l => (if b = true then 1 else 0) + cntT l
theorem cntT_le : ∀ (l : List Bool), cntT l ≤ l.length := by
  intro l
  induction l with
  | nil => simp [cntT]
  | cons b l ih => simp only [cntT, List.length_cons]; split <;> omega
theorem cntT_set : ∀ (l : List Bool) (n : Nat), l[n]? = some false → cntT (l.set n true) = cntT l + 1 := by
  intro l
  induction l with
  | nil => intro n h; simp at h
  | cons b l ih =>
    intro n h
    cases n with
    | zero => simp at h; subst h; simp [cntT]; omega
    | succ n => simp at h; simp only [List.set_cons_succ, cntT, ih n h]; omega
theorem cntT_new (n : Nat) : cntT (List.replicate n false) = 0 := by
  induction n with
  | zero => rfl
  | succ n ih => simp [List.replicate_succ, cntT, ih]
theorem cntT_lt : ∀ (l : List Bool) (n : Nat), l[n]? = some false → cntT l < l.length := by
  intro l n h
  have h1 := cntT_set l n h
  have h2 := cntT_le (l.set n true)
  simp at h2
  omega
theorem bitAt_put (l : List Bool) (n x : Nat) (h : n < l.length) : bitAt (l.set n true) x = (decide (x = n) || bitAt l x) := by
  unfold bitAt
  rw [List.getElem?_set]
  by_cases e : n = x
  · subst e; simp [h]
  · rw [if_neg e]
    have : decide (x = n) = false := by simp; omega
    rw [this, Bool.false_or]
theorem bitAt_new (n x : Nat) : bitAt (List.replicate n false) x = false := by
  unfold bitAt
  rw [List.getElem?_replicate]
  split <;> rfl
theorem bitAt_false {l : List Bool} {n : Nat} (h : l[n]? = some false) : bitAt l n = false := by unfold bitAt; rw [h]; rfl
theorem bitAt_some {l : List Bool} {n : Nat} {v : Bool} (h : l[n]? = some v) : bitAt l n = v := by unfold bitAt; rw [h]; rfl
theorem bitAt_lt {l : List Bool} {n : Nat} (h : bitAt l n = true) : n < l.length := by
  unfold bitAt at h
  by_cases e : n < l.length
  · exact e
  · rw [List.getElem?_eq_none (by omega)] at h; simp at h

/-! ### A block is gone to, and all that it leads to -/
/-- All of a row but its first ones have one ahead of them that leads to them, or are led to by what n leads to. -/
def Led (bl : List Bk) (D : Nat → Prop) (l : List Nat) : Prop :=
  ∀ l1 x l2, l = l1 ++ x :: l2 → D x ∨ ∃ y ∈ l1, ∃ b, bl[y]? = some b ∧ (x : Int) ∈ nextF b
/-- What is new behind a visit (m, o: the marks and the row ahead of it). -/
structure VNew (bl : List Bk) (pre : List Nat) (m m' : List Bool) : Prop where
  len : m'.length = m.length
  mem : ∀ x, bitAt m' x = true ↔ bitAt m x = true ∨ x ∈ pre
  new : ∀ x ∈ pre, bitAt m x = false
  nodup : pre.Nodup
  cnt : cntT m' = cntT m + pre.length
/-- Going to a block n. -/
structure VPost (bl : List Bk) (n : Nat) (pre : List Nat) (m m' : List Bool) : Prop extends VNew bl pre m m' where
  top : ∃ r, pre = n :: r
  rc : Rc bl n → ∀ x ∈ pre, Rc bl x
  led : Led bl (fun x => x = n) pre
  cls : ∀ x ∈ pre, ∀ b, bl[x]? = some b → ∀ y ∈ nextF b, bitAt m' y.toNat = true
/-- Behind the first blocks (dn) to which n leads; m: behind n's own mark. -/
structure VLoop (bl : List Bk) (n : Nat) (dn : List Int) (pre : List Nat) (m m' : List Bool) : Prop extends VNew bl pre m m' where
  rc : Rc bl n → ∀ x ∈ pre, Rc bl x
  led : Led bl (fun x => ∃ b, bl[n]? = some b ∧ (x : Int) ∈ nextF b) pre
  cls : ∀ x ∈ pre, ∀ b, bl[x]? = some b → ∀ y ∈ nextF b, bitAt m' y.toNat = true
  gone : ∀ y ∈ dn, bitAt m' y.toNat = true
theorem VLoop.start (bl : List Bk) (n : Nat) (m : List Bool) : VLoop bl n [] [] m m :=
  ⟨⟨rfl, fun x => by simp, fun x h => by simp at h, List.nodup_nil, rfl⟩, fun _ x h => by simp at h, fun l1 x l2 h => by simp at h, fun x h => by simp at h, fun y h => by simp at h⟩
/-- One that is marked already. -/
theorem VLoop.pass {bl : List Bk} {n : Nat} {dn : List Int} {pre : List Nat} {m m' : List Bool} (h : VLoop bl n dn pre m m') {y : Int} (hy : bitAt m' y.toNat = true) : VLoop bl n (dn ++ [y]) pre m m' :=
  ⟨h.toVNew, h.rc, h.led, h.cls, fun z hz => by
    rcases List.mem_append.1 hz with hz | hz
    · exact h.gone z hz
    · simp at hz; subst hz; exact hy⟩
/-- One that is gone to. -/
theorem VLoop.take {bl : List Bk} {n : Nat} {dn : List Int} {pre : List Nat} {m m1 : List Bool} (h : VLoop bl n dn pre m m1) {b : Bk} (hb : bl[n]? = some b) {y : Int} (h0 : 0 ≤ y) (hy : y ∈ nextF b) {pre' : List Nat} {m2 : List Bool} (h' : VPost bl y.toNat pre' m1 m2) :
    VLoop bl n (dn ++ [y]) (pre' ++ pre) m m2 := by
  obtain ⟨r, hr⟩ := h'.top
  have hyin : y.toNat ∈ pre' := by rw [hr]; simp
  have hmono : ∀ x, bitAt m1 x = true → bitAt m2 x = true := fun x hx => (h'.mem x).2 (.inl hx)
  refine ⟨⟨h'.len.trans h.len, fun x => ?_, fun x hx => ?_, ?_, ?_⟩, fun hc x hx => ?_, ?_, fun x hx bb hbb z hz => ?_, fun z hz => ?_⟩
  · rw [h'.mem, h.mem, List.mem_append, or_assoc, or_comm (a := x ∈ pre)]
  · rcases List.mem_append.1 hx with hx | hx
    · have h1 := h'.new x hx
      have h2 := h.mem x
      cases e : bitAt m x
      · rfl
      · rw [(h2.2 (.inl e))] at h1; cases h1
    · exact h.new x hx
  · refine List.nodup_append.2 ⟨h'.nodup, h.nodup, fun a ha c hc e => ?_⟩
    subst e
    have h1 := h'.new a ha
    rw [(h.mem a).2 (.inr hc)] at h1
    cases h1
  · rw [h'.cnt, h.cnt, List.length_append]; omega
  · rcases List.mem_append.1 hx with hx | hx
    · exact h'.rc (hc.step hb hy) x hx
    · exact h.rc hc x hx
  · intro l1 x l2 e
    rcases List.append_eq_append_iff.1 e with ⟨a, e1, e2⟩ | ⟨a, e1, e2⟩
    · -- pre' ++ a = l1, a ++ ... 
      rcases h.led a x l2 e2 with q | ⟨z, hz, q⟩
      · exact .inl q
      · exact .inr ⟨z, by rw [e1]; exact List.mem_append.2 (.inr hz), q⟩
    · -- pre' = l1 ++ a, x :: l2 = a ++ pre
      cases a with
      | nil =>
        simp at e1 e2
        rcases h.led [] x l2 (by rw [← e2]; rfl) with q | ⟨z, hz, q⟩
        · exact .inl q
        · simp at hz
      | cons c a =>
        simp at e2
        obtain ⟨rfl, e3⟩ := e2
        rcases h'.led l1 x a e1 with q | q
        · refine .inl ⟨b, hb, ?_⟩
          rw [q]
          rw [Int.toNat_of_nonneg h0]
          exact hy
        · exact .inr q
  · rcases List.mem_append.1 hx with hx | hx
    · exact h'.cls x hx bb hbb z hz
    · exact hmono _ (h.cls x hx bb hbb z hz)
  · rcases List.mem_append.1 hz with hz | hz
    · exact hmono _ (h.gone z hz)
    · simp at hz
      subst hz
      exact (h'.mem _).2 (.inr hyin)
/-- All that n leads to has been gone to: n is put ahead. -/
theorem VLoop.close {bl : List Bk} {n : Nat} {pre : List Nat} {m m2 : List Bool} {b : Bk} (hb : bl[n]? = some b) (hn : m[n]? = some false) (h : VLoop bl n (nextF b) pre (m.set n true) m2) : VPost bl n (n :: pre) m m2 := by
  have hlt : n < m.length := by
    by_cases e : n < m.length
    · exact e
    · rw [List.getElem?_eq_none (by omega)] at hn; cases hn
  have hs := fun x => bitAt_put m n x hlt
  have hni : n ∉ pre := fun hh => by have := h.new n hh; rw [hs] at this; simp at this
  refine ⟨⟨h.len.trans (by simp), fun x => ?_, fun x hx => ?_, List.nodup_cons.2 ⟨hni, h.nodup⟩, ?_⟩, ⟨pre, rfl⟩, fun hc x hx => ?_, ?_, fun x hx bb hbb z hz => ?_⟩
  · rw [h.mem, hs, List.mem_cons]
    simp only [Bool.or_eq_true, decide_eq_true_eq]
    constructor
    · rintro ((q | q) | q)
      · exact .inr (.inl q)
      · exact .inl q
      · exact .inr (.inr q)
    · rintro (q | q | q)
      · exact .inl (.inr q)
      · exact .inl (.inl q)
      · exact .inr q
  · rcases List.mem_cons.1 hx with rfl | hx
    · exact bitAt_false hn
    · have := h.new x hx
      rw [hs] at this
      simp only [Bool.or_eq_false_iff] at this
      exact this.2
  · rw [h.cnt, cntT_set m n hn, List.length_cons]; omega
  · rcases List.mem_cons.1 hx with rfl | hx
    · exact hc
    · exact h.rc hc x hx
  · intro l1 x l2 e
    cases l1 with
    | nil => simp at e; exact .inl e.1.symm
    | cons c l1 =>
      simp at e
      obtain ⟨rfl, e⟩ := e
      rcases h.led l1 x l2 e with ⟨bb, q1, q2⟩ | ⟨z, hz, q⟩
      · exact .inr ⟨n, by simp, bb, q1, q2⟩
      · exact .inr ⟨z, by simp [hz], q⟩
  · rcases List.mem_cons.1 hx with rfl | hx
    · rw [hb] at hbb; cases hbb; exact h.gone z hz
    · exact h.cls x hx bb hbb z hz

/-! ### The order -/
structure OrdP (bl : List Bk) (o : List Nat) : Prop where
  nodup : o.Nodup
  mem : ∀ x, x ∈ o ↔ Rc bl x
  top : o[0]? = some 0
  par : ∀ (k x : Nat), 0 < k → o[k]? = some x → ∃ j y b, j < k ∧ o[j]? = some y ∧ bl[y]? = some b ∧ (x : Int) ∈ nextF b
theorem ordP_of {bl : List Bk} {pre : List Nat} {m' : List Bool} (h : VPost bl 0 pre (List.replicate bl.length false) m') : OrdP bl pre := by
  obtain ⟨r, hr⟩ := h.top
  have hm : ∀ x, bitAt m' x = true ↔ x ∈ pre := fun x => by rw [h.mem, bitAt_new]; simp
  refine ⟨h.nodup, fun x => ⟨h.rc .base x, fun hx => ?_⟩, by rw [hr]; rfl, fun k x hk hx => ?_⟩
  · induction hx with
    | base => rw [hr]; simp
    | step _ hb hy ih => exact (hm _).1 (h.cls _ ih _ hb _ hy)
  · have hlt : k < pre.length := by
      by_cases e : k < pre.length
      · exact e
      · rw [List.getElem?_eq_none (by omega)] at hx; cases hx
    have he : pre = pre.take k ++ x :: pre.drop (k + 1) := by
      conv => lhs; rw [← List.take_append_drop k pre]
      congr 1
      rw [List.drop_eq_getElem_cons hlt]
      rw [List.getElem?_eq_getElem hlt] at hx
      injection hx with hx
      rw [hx]
    rcases h.led _ x _ he with q | ⟨y, hy, b, q1, q2⟩
    · exfalso
      subst q
      rw [hr] at hx
      obtain ⟨k', rfl⟩ : ∃ k', k = k' + 1 := ⟨k - 1, by omega⟩
      simp at hx
      have := h.nodup
      rw [hr] at this
      exact (List.nodup_cons.1 this).1 (List.mem_of_getElem? hx)
    · obtain ⟨j, hj⟩ := List.mem_iff_getElem?.1 hy
      have hjk : j < k := by
        by_cases e : j < k
        · exact e
        · rw [List.getElem?_eq_none (by rw [List.length_take]; omega)] at hj; cases hj
      refine ⟨j, y, b, hjk, ?_, q1, q2⟩
      rw [List.getElem?_take] at hj
      rw [if_pos hjk] at hj
      exact hj
theorem OrdP.lt {bl : List Bk} (hg : FOk bl) {o : List Nat} (h : OrdP bl o) {k x : Nat} (hx : o[k]? = some x) : x < bl.length := ((h.mem x).1 (List.mem_of_getElem? hx)).lt hg
theorem OrdP.pos {bl : List Bk} {o : List Nat} (h : OrdP bl o) : 0 < o.length := by
  cases o with
  | nil => have := h.top; simp at this
  | cons a l => simp
end Go.Proofs.Ytgkjhnghibpeoaa
