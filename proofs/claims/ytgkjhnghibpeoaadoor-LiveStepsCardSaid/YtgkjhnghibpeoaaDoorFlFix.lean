/- Graphs' ways: what is reached, in what order. Nothing here speaks of the program. -/
import Derived.Test.YtgkjhnghibpeoaaDoorLvFits
namespace Go.Proofs.YtgkjhnghibpeoaaDoor
open Go Go.Lib

/-- The blocks to which one leads, each once. -/
def nextF (b : Bk) : List Int := if b.last = 3 then [] else if b.last = 1 ∨ b.yes = b.no then [b.yes] else [b.yes, b.no]
/-- A block is reached. -/
inductive Rc (bl : List Bk) : Nat → Prop
  | base : Rc bl 0
  | step {t : Nat} {b : Bk} {y : Int} : Rc bl t → bl[t]? = some b → y ∈ nextF b → Rc bl y.toNat
/-- What is known of the blocks of a graph that may be. -/
structure FOk (bl : List Bk) : Prop where
  pos : 0 < bl.length
  room : bl.length ≤ 4096
  last : ∀ b ∈ bl, b.last = 1 ∨ b.last = 2 ∨ b.last = 3
  next : ∀ b ∈ bl, ∀ y ∈ nextL b, 0 ≤ y ∧ y < (bl.length : Int)
  side : ∀ t, ¬ (Rch bl t 1 ∧ Rch bl t 2)
theorem nextF_mem {b : Bk} (h : b.last = 1 ∨ b.last = 2 ∨ b.last = 3) {y : Int} : y ∈ nextF b ↔ y ∈ nextL b := by
  unfold nextF nextL
  rcases h with h | h | h
  · simp [h]
  · by_cases e : b.yes = b.no
    · simp [h, e]
    · simp [h, e]
  · simp [h]
theorem FOk.lt {bl : List Bk} (h : FOk bl) {t : Nat} {b : Bk} (hb : bl[t]? = some b) {y : Int} (hy : y ∈ nextF b) : 0 ≤ y ∧ y < (bl.length : Int) :=
  h.next b (List.mem_of_getElem? hb) y ((nextF_mem (h.last b (List.mem_of_getElem? hb))).1 hy)
theorem Rc.lt {bl : List Bk} (h : FOk bl) {t : Nat} (hr : Rc bl t) : t < bl.length := by
  cases hr with
  | base => exact h.pos
  | step _ hb hy => have := h.lt hb hy; omega
theorem Rc.side {bl : List Bk} (h : FOk bl) {t : Nat} (hr : Rc bl t) : ∃ s, Rch bl t s := by
  induction hr with
  | base => exact ⟨1, .base⟩
  | step _ hb hy ih => obtain ⟨s, hs⟩ := ih; exact ⟨_, hs.step hb ((nextF_mem (h.last _ (List.mem_of_getElem? hb))).1 hy)⟩
theorem Rch.rc {bl : List Bk} (h : FOk bl) {t s : Nat} (hr : Rch bl t s) : Rc bl t := by
  induction hr with
  | base => exact .base
  | step _ hb hy ih => exact ih.step hb ((nextF_mem (h.last _ (List.mem_of_getElem? hb))).2 hy)

/-! ### Rows of truths -/
def cntT : List Bool → Nat
  | [] => 0
  | b :: l => (if b = true then 1 else 0) + cntT l
theorem cntT_le : ∀ (l : List Bool), cntT l ≤ l.length := by
  intro l
  induction l with
  | nil => simp [cntT]
  | cons b l ih => simp only [cntT, List.length_cons]; split <;> omega
theorem cntT_set : ∀ (l : List Bool) (n : Nat), l[n]? = some false → cntT (l.set n true) = cntT l + 1 := by
  intro l
  induction l with
  | nil => intro n h; simp at h
  | cons b l ih =>
    intro n h
    cases n with
    | zero => simp at h; subst h; simp [cntT]; omega
    | succ n => simp at h; simp only [List.set_cons_succ, cntT, ih n h]; omega
theorem cntT_new (n : Nat) : cntT (List.replicate n false) = 0 := by
  induction n with
  | zero => rfl
  | succ n ih => simp [List.replicate_succ, cntT, ih]
theorem cntT_lt : ∀ (l : List Bool) (n : Nat), l[n]? = some false → cntT l < l.length := by
  intro l n h
  have h1 := cntT_set l n h
  have h2 := cntT_le (l.set n true)
  simp at h2
  omega
theorem bitAt_put (l : List Bool) (n x : Nat) (h : n < l.length) : bitAt (l.set n true) x = (decide (x = n) || bitAt l x) := by
  unfold bitAt
  rw [List.getElem?_set]
  by_cases e : n = x
  · subst e; simp [h]
  · rw [if_neg e]
    have : decide (x = n) = false := by simp; omega
    rw [this, Bool.false_or]
theorem bitAt_new (n x : Nat) : bitAt (List.replicate n false) x = false := by
  unfold bitAt
  rw [List.getElem?_replicate]
  split <;> rfl
theorem bitAt_false {l : List Bool} {n : Nat} (h : l[n]? = some false) : bitAt l n = false := by unfold bitAt; rw [h]; rfl
theorem bitAt_some {l : List Bool} {n : Nat} {v : Bool} (h : l[n]? = some v) : bitAt l n = v := by unfold bitAt; rw [h]; rfl
theorem bitAt_lt {l : List Bool} {n : Nat} (h : bitAt l n = true) : n < l.length := by
  unfold bitAt at h
  by_cases e : n < l.length
  · exact e
  · rw [List.getElem?_eq_none (by omega)] at h; simp at h

/-! ### A block is gone to, and all that it leads to -/
/-- All of a row but its first ones have one ahead of them that leads to them, or are led to by what n leads to. -/
def Led (bl : List Bk) (D : Nat → Prop) (l : List Nat) : Prop :=
  ∀ l1 x l2, l = l1 ++ x :: l2 → D x ∨ ∃ y ∈ l1, ∃ b, bl[y]? = some b ∧ (x : Int) ∈ nextF b
/-- What is new behind a visit (m, o: the marks and the row ahead of it). -/
structure VNew (bl : List Bk) (pre : List Nat) (m m' : List Bool) : Prop where
  len : m'.length = m.length
  mem : ∀ x, bitAt m' x = true ↔ bitAt m x = true ∨ x ∈ pre
  new : ∀ x ∈ pre, bitAt m x = false
  nodup : pre.Nodup
  cnt : cntT m' = cntT m + pre.length
/-- Going to a block n. -/
structure VPost (bl : List Bk) (n : Nat) (pre : List Nat) (m m' : List Bool) : Prop extends VNew bl pre m m' where
  top : ∃ r, pre = n :: r
  rc : Rc bl n → ∀ x ∈ pre, Rc bl x
  led : Led bl (fun x => x = n) pre
  cls : ∀ x ∈ pre, ∀ b, bl[x]? = some b → ∀ y ∈ nextF b, bitAt m' y.toNat = true
/-- Behind the first blocks (dn) to which n leads; m: behind n's own mark. -/
structure VLoop (bl : List Bk) (n : Nat) (dn : List Int) (pre : List Nat) (m m' : List Bool) : Prop extends VNew bl pre m m' where
  rc : Rc bl n → ∀ x ∈ pre, Rc bl x
  led : Led bl (fun x => ∃ b, bl[n]? = some b ∧ (x : Int) ∈ nextF b) pre
  cls : ∀ x ∈ pre, ∀ b, bl[x]? = some b → ∀ y ∈ nextF b, bitAt m' y.toNat = true
  gone : ∀ y ∈ dn, bitAt m' y.toNat = true
theorem VLoop.start (bl : List Bk) (n : Nat) (m : List Bool) : VLoop bl n [] [] m m :=
  ⟨⟨rfl, fun x => by simp, fun x h => by simp at h, List.nodup_nil, rfl⟩, fun _ x h => by simp at h, fun l1 x l2 h => by simp at h, fun x h => by simp at h, fun y h => by simp at h⟩
/-- One that is marked already. -/
theorem VLoop.pass {bl : List Bk} {n : Nat} {dn : List Int} {pre : List Nat} {m m' : List Bool} (h : VLoop bl n dn pre m m') {y : Int} (hy : bitAt m' y.toNat = true) : VLoop bl n (dn ++ [y]) pre m m' :=
  ⟨h.toVNew, h.rc, h.led, h.cls, fun z hz => by
    rcases List.mem_append.1 hz with hz | hz
    · exact h.gone z hz
    · simp at hz; subst hz; exact hy⟩
/-- One that is gone to. -/
theorem VLoop.take {bl : List Bk} {n : Nat} {dn : List Int} {pre : List Nat} {m m1 : List Bool} (h : VLoop bl n dn pre m m1) {b : Bk} (hb : bl[n]? = some b) {y : Int} (h0 : 0 ≤ y) (hy : y ∈ nextF b) {pre' : List Nat} {m2 : List Bool} (h' : VPost bl y.toNat pre' m1 m2) :
    VLoop bl n (dn ++ [y]) (pre' ++ pre) m m2 := by
  obtain ⟨r, hr⟩ := h'.top
  have hyin : y.toNat ∈ pre' := by rw [hr]; simp
  have hmono : ∀ x, bitAt m1 x = true → bitAt m2 x = true := fun x hx => (h'.mem x).2 (.inl hx)
  refine ⟨⟨h'.len.trans h.len, fun x => ?_, fun x hx => ?_, ?_, ?_⟩, fun hc x hx => ?_, ?_, fun x hx bb hbb z hz => ?_, fun z hz => ?_⟩
  · rw [h'.mem, h.mem, List.mem_append, or_assoc, or_comm (a := x ∈ pre)]
  · rcases List.mem_append.1 hx with hx | hx
    · have h1 := h'.new x hx
      have h2 := h.mem x
      cases e : bitAt m x
      · rfl
      · rw [(h2.2 (.inl e))] at h1; cases h1
    · exact h.new x hx
  · refine List.nodup_append.2 ⟨h'.nodup, h.nodup, fun a ha c hc e => ?_⟩
    subst e
    have h1 := h'.new a ha
    rw [(h.mem a).2 (.inr hc)] at h1
    cases h1
  · rw [h'.cnt, h.cnt, List.length_append]; omega
  · rcases List.mem_append.1 hx with hx | hx
    · exact h'.rc (hc.step hb hy) x hx
    · exact h.rc hc x hx
  · intro l1 x l2 e
    rcases List.append_eq_append_iff.1 e with ⟨a, e1, e2⟩ | ⟨a, e1, e2⟩
    · -- pre' ++ a = l1, a ++ ... 
      rcases h.led a x l2 e2 with q | ⟨z, hz, q⟩
      · exact .inl q
      · exact .inr ⟨z, by rw [e1]; exact List.mem_append.2 (.inr hz), q⟩
    · -- pre' = l1 ++ a, x :: l2 = a ++ pre
      cases a with
      | nil =>
        simp at e1 e2
        rcases h.led [] x l2 (by rw [← e2]; rfl) with q | ⟨z, hz, q⟩
        · exact .inl q
        · simp at hz
      | cons c a =>
        simp at e2
        obtain ⟨rfl, e3⟩ := e2
        rcases h'.led l1 x a e1 with q | q
        · refine .inl ⟨b, hb, ?_⟩
          rw [q]
          rw [Int.toNat_of_nonneg h0]
          exact hy
        · exact .inr q
  · rcases List.mem_append.1 hx with hx | hx
    · exact h'.cls x hx bb hbb z hz
    · exact hmono _ (h.cls x hx bb hbb z hz)
  · rcases List.mem_append.1 hz with hz | hz
    · exact hmono _ (h.gone z hz)
    · simp at hz
      subst hz
      exact (h'.mem _).2 (.inr hyin)
/-- All that n leads to has been gone to: n is put ahead. -/
theorem VLoop.close {bl : List Bk} {n : Nat} {pre : List Nat} {m m2 : List Bool} {b : Bk} (hb : bl[n]? = some b) (hn : m[n]? = some false) (h : VLoop bl n (nextF b) pre (m.set n true) m2) : VPost bl n (n :: pre) m m2 := by
  have hlt : n < m.length := by
    by_cases e : n < m.length
    · exact e
    · rw [List.getElem?_eq_none (by omega)] at hn; cases hn
  have hs := fun x => bitAt_put m n x hlt
  have hni : n ∉ pre := fun hh => by have := h.new n hh; rw [hs] at this; simp at this
  refine ⟨⟨h.len.trans (by simp), fun x => ?_, fun x hx => ?_, List.nodup_cons.2 ⟨hni, h.nodup⟩, ?_⟩, ⟨pre, rfl⟩, fun hc x hx => ?_, ?_, fun x hx bb hbb z hz => ?_⟩
  · rw [h.mem, hs, List.mem_cons]
    simp only [Bool.or_eq_true, decide_eq_true_eq]
    constructor
    · rintro ((q | q) | q)
      · exact .inr (.inl q)
      · exact .inl q
      · exact .inr (.inr q)
    · rintro (q | q | q)
      · exact .inl (.inr q)
      · exact .inl (.inl q)
      · exact .inr q
  · rcases List.mem_cons.1 hx with rfl | hx
    · exact bitAt_false hn
    · have := h.new x hx
      rw [hs] at this
      simp only [Bool.or_eq_false_iff] at this
      exact this.2
  · rw [h.cnt, cntT_set m n hn, List.length_cons]; omega
  · rcases List.mem_cons.1 hx with rfl | hx
    · exact hc
    · exact h.rc hc x hx
  · intro l1 x l2 e
    cases l1 with
    | nil => simp at e; exact .inl e.1.symm
    | cons c l1 =>
      simp at e
      obtain ⟨rfl, e⟩ := e
      rcases h.led l1 x l2 e with ⟨bb, q1, q2⟩ | ⟨z, hz, q⟩
      · exact .inr ⟨n, by simp, bb, q1, q2⟩
      · exact .inr ⟨z, by simp [hz], q⟩
  · rcases List.mem_cons.1 hx with rfl | hx
    · rw [hb] at hbb; cases hbb; exact h.gone z hz
    · exact h.cls x hx bb hbb z hz

/-! ### The order -/
structure OrdP (bl : List Bk) (o : List Nat) : Prop where
  nodup : o.Nodup
  mem : ∀ x, x ∈ o ↔ Rc bl x
  top : o[0]? = some 0
  par : ∀ (k x : Nat), 0 < k → o[k]? = some x → ∃ j y b, j < k ∧ o[j]? = some y ∧ bl[y]? = some b ∧ (x : Int) ∈ nextF b
theorem ordP_of {bl : List Bk} {pre : List Nat} {m' : List Bool} (h : VPost bl 0 pre (List.replicate bl.length false) m') : OrdP bl pre := by
  obtain ⟨r, hr⟩ := h.top
  have hm : ∀ x, bitAt m' x = true ↔ x ∈ pre := fun x => by rw [h.mem, bitAt_new]; simp
  refine ⟨h.nodup, fun x => ⟨h.rc .base x, fun hx => ?_⟩, by rw [hr]; rfl, fun k x hk hx => ?_⟩
  · induction hx with
    | base => rw [hr]; simp
    | step _ hb hy ih => exact (hm _).1 (h.cls _ ih _ hb _ hy)
  · have hlt : k < pre.length := by
      by_cases e : k < pre.length
      · exact e
      · rw [List.getElem?_eq_none (by omega)] at hx; cases hx
    have he : pre = pre.take k ++ x :: pre.drop (k + 1) := by
      conv => lhs; rw [← List.take_append_drop k pre]
      congr 1
      rw [List.drop_eq_getElem_cons hlt]
      rw [List.getElem?_eq_getElem hlt] at hx
      injection hx with hx
      rw [hx]
    rcases h.led _ x _ he with q | ⟨y, hy, b, q1, q2⟩
    · exfalso
      subst q
      rw [hr] at hx
      obtain ⟨k', rfl⟩ : ∃ k', k = k' + 1 := ⟨k - 1, by omega⟩
      simp at hx
      have := h.nodup
      rw [hr] at this
      exact (List.nodup_cons.1 this).1 (List.mem_of_getElem? hx)
    · obtain ⟨j, hj⟩ := List.mem_iff_getElem?.1 hy
      have hjk : j < k := by
        by_cases e : j < k
        · exact e
        · rw [List.getElem?_eq_none (by rw [List.length_take]; omega)] at hj; cases hj
      refine ⟨j, y, b, hjk, ?_, q1, q2⟩
      rw [List.getElem?_take] at hj
      rw [if_pos hjk] at hj
      exact hj
theorem OrdP.lt {bl : List Bk} (hg : FOk bl) {o : List Nat} (h : OrdP bl o) {k x : Nat} (hx : o[k]? = some x) : x < bl.length := ((h.mem x).1 (List.mem_of_getElem? hx)).lt hg
theorem OrdP.pos {bl : List Bk} {o : List Nat} (h : OrdP bl o) : 0 < o.length := by
  cases o with
  | nil => have := h.top; simp at this
  | cons a l => simp
end Go.Proofs.YtgkjhnghibpeoaaDoor
namespace Go.Proofs.YtgkjhnghibpeoaaDoor
open Go Go.Lib

def bitW (S : List Nat) (t : Nat) : Bool := ((S[t / 64]?).getD 0).testBit (t % 64)
def rowB (S : List (List Nat)) (j : Nat) : List Nat := (S[j]?).getD []
def hasB (S : List (List Nat)) (j t : Nat) : Bool := bitW (rowB S j) t
/-- What a word of to's set becomes. -/
def comW (to k a b : Nat) : Nat := if k = to / 64 then (a &&& b) ||| 2 ^ (to % 64) else a &&& b
def comL (to : Nat) : Nat → List Nat → List Nat → List Nat
  | k, a :: A, b :: B => comW to k a b :: comL to (k + 1) A B
  | _, A, _ => A
theorem comL_len (to : Nat) : ∀ (A : List Nat) (k : Nat) (B : List Nat), (comL to k A B).length = A.length := by
  intro A
  induction A with
  | nil => intro k B; simp [comL]
  | cons a A ih =>
    intro k B
    cases B with
    | nil => simp [comL]
    | cons b B => simp [comL, ih]
theorem comL_at (to : Nat) : ∀ (A : List Nat) (k : Nat) (B : List Nat) (i a b : Nat), A[i]? = some a → B[i]? = some b → (comL to k A B)[i]? = some (comW to (k + i) a b) := by
  intro A
  induction A with
  | nil => intro k B i a b h; simp at h
  | cons x A ih =>
    intro k B i a b ha hb
    cases B with
    | nil => simp at hb
    | cons y B =>
      cases i with
      | zero => simp at ha hb; subst ha hb; simp [comL]
      | succ i =>
        simp at ha hb
        rw [comL, List.getElem?_cons_succ, ih (k + 1) B i a b ha hb]
        rw [show k + 1 + i = k + (i + 1) by omega]
theorem comW_bit (to k a b t : Nat) (hk : k = t / 64) : (comW to k a b).testBit (t % 64) = (a.testBit (t % 64) && b.testBit (t % 64) || decide (t = to)) := by
  unfold comW
  by_cases h : k = to / 64
  · rw [if_pos h, Nat.testBit_or, Nat.testBit_and, Nat.testBit_two_pow]
    congr 1
    have : (to % 64 = t % 64) ↔ t = to := by omega
    simp [this]
  · rw [if_neg h, Nat.testBit_and]
    have : ¬ t = to := by intro e; subst e; exact h hk
    simp [this]
theorem comL_bit {to : Nat} {A B : List Nat} (hl : A.length = B.length) (ht : to < 64 * A.length) (t : Nat) : bitW (comL to 0 A B) t = (bitW A t && bitW B t || decide (t = to)) := by
  unfold bitW
  by_cases h : t / 64 < A.length
  · have ha := List.getElem?_eq_getElem h
    have hb := List.getElem?_eq_getElem (hl ▸ h : t / 64 < B.length)
    rw [comL_at to A 0 B (t / 64) _ _ ha hb, ha, hb]
    simp only [Option.getD_some]
    exact comW_bit to _ _ _ t (by omega)
  · rw [List.getElem?_eq_none (by rw [comL_len]; omega), List.getElem?_eq_none (by omega : A.length ≤ t / 64)]
    have : ¬ t = to := by intro e; subst e; omega
    simp [this]
theorem comW_lt {to k a b : Nat} (ha : a < 2 ^ 64) : comW to k a b < 2 ^ 64 := by
  unfold comW
  have h2 : a &&& b < 2 ^ 64 := Nat.lt_of_le_of_lt Nat.and_le_left ha
  split
  · exact Nat.or_lt_two_pow h2 (Nat.pow_lt_pow_right (by decide) (Nat.mod_lt _ (by decide)))
  · exact h2
theorem comW_le {to k a b : Nat} (h : k = to / 64 → a.testBit (to % 64) = true) : comW to k a b ≤ a := by
  unfold comW
  split
  · rename_i e
    have : (a &&& b) ||| 2 ^ (to % 64) = a &&& (b ||| 2 ^ (to % 64)) := by
      apply Nat.eq_of_testBit_eq
      intro i
      simp only [Nat.testBit_or, Nat.testBit_and, Nat.testBit_two_pow]
      by_cases q : to % 64 = i
      · subst q; simp [h e]
      · simp [q]
    rw [this]
    exact Nat.and_le_left
  · exact Nat.and_le_left
theorem comL_lt (to : Nat) : ∀ (A : List Nat) (k : Nat) (B : List Nat), (∀ w ∈ A, w < 2 ^ 64) → ∀ w ∈ comL to k A B, w < 2 ^ 64 := by
  intro A
  induction A with
  | nil => intro k B h w hw; simp [comL] at hw
  | cons a A ih =>
    intro k B h w hw
    cases B with
    | nil => simp only [comL] at hw; exact h w hw
    | cons b B =>
      simp only [comL, List.mem_cons] at hw
      rcases hw with rfl | hw
      · exact comW_lt (h a (by simp))
      · exact ih _ _ (fun x hx => h x (List.mem_cons_of_mem _ hx)) w hw
theorem comL_sum (to : Nat) : ∀ (A : List Nat) (k : Nat) (B : List Nat), (∀ i a, A[i]? = some a → k + i = to / 64 → a.testBit (to % 64) = true) → (comL to k A B).sum ≤ A.sum ∧ (comL to k A B ≠ A → (comL to k A B).sum < A.sum) := by
  intro A
  induction A with
  | nil => intro k B h; simp [comL]
  | cons a A ih =>
    intro k B h
    cases B with
    | nil => simp [comL]
    | cons b B =>
      obtain ⟨i1, i2⟩ := ih (k + 1) B (fun i x hx e => h (i + 1) x (by simpa using hx) (by omega))
      have hle := comW_le (to := to) (k := k) (a := a) (b := b) (fun e => h 0 a (by simp) (by omega))
      simp only [comL, List.sum_cons]
      refine ⟨by omega, fun hne => ?_⟩
      by_cases e1 : comW to k a b = a
      · have : comL to (k + 1) A B ≠ A := fun e2 => hne (by rw [e1, e2])
        have := i2 this
        omega
      · omega

/-! ### Sets of places -/
/-- One place leads to another one. -/
def Ed (bl : List Bk) (o : List Nat) (i j : Nat) : Prop := ∃ x y b, o[i]? = some x ∧ o[j]? = some y ∧ bl[x]? = some b ∧ (y : Int) ∈ nextF b
/-- A way to a block, and what it has met. -/
inductive Wy (bl : List Bk) : Nat → List Nat → Prop
  | base : Wy bl 0 [0]
  | step {t : Nat} {b : Bk} {y : Int} {M : List Nat} : Wy bl t M → bl[t]? = some b → y ∈ nextF b → Wy bl y.toNat (y.toNat :: M)
/-- What place t has lies on every way to what place j has. -/
def DomAt (bl : List Bk) (o : List Nat) (t j : Nat) : Prop := ∃ x y, o[t]? = some x ∧ o[j]? = some y ∧ ∀ M, Wy bl y M → x ∈ M
structure FixA (bl : List Bk) (o : List Nat) (S : List (List Nat)) (op : List Bool) (X : Nat → Nat → Prop) : Prop where
  len : S.length = o.length
  olen : op.length = o.length
  row : ∀ r ∈ S, r.length = (o.length + 63) / 64 ∧ ∀ w ∈ r, w < 2 ^ 64
  refl : ∀ j, j < o.length → hasB S j j = true
  zero : ∀ j, j < o.length → hasB S j 0 = true
  row0 : ∀ t, hasB S 0 t = true → t = 0
  doms : ∀ t j, DomAt bl o t j → hasB S j t = true
  cls : ∀ i j, Ed bl o i j → bitAt op i = false → ¬ X i j → ∀ t, hasB S j t = true → hasB S i t = true ∨ t = j
theorem hasB_set {S : List (List Nat)} {to : Nat} (h : to < S.length) (r : List Nat) (j t : Nat) : hasB (S.set to r) j t = if j = to then bitW r t else hasB S j t := by
  unfold hasB rowB
  rw [List.getElem?_set]
  by_cases e : to = j
  · subst e; simp [h]
  · rw [if_neg e, if_neg (fun q => e q.symm)]
theorem flatten_set : ∀ (S : List (List Nat)) (k : Nat) (A R : List Nat), S[k]? = some A → (S.set k R).flatten.sum + A.sum = S.flatten.sum + R.sum := by
  intro S
  induction S with
  | nil => intro k A R h; simp at h
  | cons x S ih =>
    intro k A R h
    cases k with
    | zero => simp at h; subst h; simp; omega
    | succ k => simp at h; have := ih k A R h; simp at this ⊢; omega
theorem some_lt {α : Type} {l : List α} {i : Nat} {x : α} (h : l[i]? = some x) : i < l.length := by
  by_cases e : i < l.length
  · exact e
  · rw [List.getElem?_eq_none (by omega)] at h; cases h
theorem nodup_at {o : List Nat} (h : o.Nodup) {i j x : Nat} (hi : o[i]? = some x) (hj : o[j]? = some x) : i = j := by
  have h1 := some_lt hi
  have h2 := some_lt hj
  rw [List.getElem?_eq_getElem h1] at hi
  rw [List.getElem?_eq_getElem h2] at hj
  injection hi with hi
  injection hj with hj
  have hp := List.pairwise_iff_getElem.1 h
  by_cases e : i = j
  · exact e
  · rcases Nat.lt_or_gt_of_ne e with q | q
    · exact absurd (hi.trans hj.symm) (hp i j h1 h2 q)
    · exact absurd (hj.trans hi.symm) (hp j i h2 h1 q)
theorem DomAt.back {bl : List Bk} {o : List Nat} (hn : o.Nodup) {t i j : Nat} (h : DomAt bl o t j) (he : Ed bl o i j) : t = j ∨ DomAt bl o t i := by
  obtain ⟨x, y, hx, hy, hm⟩ := h
  obtain ⟨x', y', b, hx', hy', hb, hin⟩ := he
  rw [hy] at hy'; cases hy'
  by_cases e : t = j
  · exact .inl e
  · refine .inr ⟨x, x', hx, hx', fun M hM => ?_⟩
    have := hm _ (by simpa using hM.step hb hin)
    rcases List.mem_cons.1 this with q | q
    · subst q; exact absurd (nodup_at hn hx hy) e
    · exact q
section
variable {bl : List Bk} {o : List Nat} {S : List (List Nat)} {op : List Bool} {X : Nat → Nat → Prop}
theorem FixA.rowAt (h : FixA bl o S op X) {j : Nat} (hj : j < o.length) : ∃ r, S[j]? = some r ∧ rowB S j = r ∧ r.length = (o.length + 63) / 64 ∧ ∀ w ∈ r, w < 2 ^ 64 := by
  have hj' : j < S.length := by rw [h.len]; exact hj
  refine ⟨_, List.getElem?_eq_getElem hj', by unfold rowB; rw [List.getElem?_eq_getElem hj']; rfl, h.row _ (List.getElem_mem hj')⟩
/-- One that leads to another one, gone over. -/
theorem FixA.com (h : FixA bl o S op X) (hn : o.Nodup) {i to : Nat} (he : Ed bl o i to) {A B : List Nat} (hA : S[to]? = some A) (hB : S[i]? = some B) :
    FixA bl o (S.set to (comL to 0 A B)) (if comL to 0 A B = A then op else op.set to true) (fun a b => X a b ∧ ¬ (a = i ∧ b = to))
      ∧ ((S.set to (comL to 0 A B)).flatten.sum ≤ S.flatten.sum) ∧ (comL to 0 A B ≠ A → (S.set to (comL to 0 A B)).flatten.sum < S.flatten.sum) := by
  have hto : to < S.length := some_lt hA
  have hi : i < S.length := some_lt hB
  obtain ⟨a1, a2⟩ := h.row A (List.mem_of_getElem? hA)
  obtain ⟨b1, b2⟩ := h.row B (List.mem_of_getElem? hB)
  have hlen := h.len
  have htl : to < 64 * A.length := by rw [a1]; omega
  have hbit := fun t => comL_bit (to := to) (a1.trans b1.symm) htl t
  have hrA : ∀ t, hasB S to t = bitW A t := fun t => by unfold hasB rowB; rw [hA]; rfl
  have hrB : ∀ t, hasB S i t = bitW B t := fun t => by unfold hasB rowB; rw [hB]; rfl
  have hself : bitW A to = true := by rw [← hrA]; exact h.refl to (by omega)
  have hs := fun j t => hasB_set hto (comL to 0 A B) j t
  have hdown : ∀ j t, hasB (S.set to (comL to 0 A B)) j t = true → hasB S j t = true := fun j t q => by
    rw [hs] at q
    split at q
    · rename_i e
      subst e
      rw [hbit] at q
      rw [hrA]
      simp only [Bool.or_eq_true, Bool.and_eq_true, decide_eq_true_eq] at q
      rcases q with q | q
      · exact q.1
      · rw [q]; exact hself
    · exact q
  obtain ⟨s1, s2⟩ := comL_sum to A 0 B (fun k a ha e => by
    unfold bitW at hself
    have e' : to / 64 = k := by omega
    rw [e', ha] at hself
    exact hself)
  refine ⟨⟨by simpa using h.len, ?_, fun r hr => ?_, fun j hj => ?_, fun j hj => ?_, fun t q => h.row0 t (hdown 0 t q), fun t j hd => ?_, fun a b hab hop hx t ht => ?_⟩, ?_, ?_⟩
  · split
    · exact h.olen
    · simpa using h.olen
  · rcases List.mem_or_eq_of_mem_set hr with hr | rfl
    · exact h.row r hr
    · exact ⟨by rw [comL_len]; exact a1, comL_lt to A 0 B a2⟩
  · rw [hs]
    split
    · rename_i e; subst e; rw [hbit]; simp
    · exact h.refl j hj
  · rw [hs]
    split
    · rename_i e; subst e; rw [hbit, ← hrA, ← hrB, h.zero j hj, h.zero i (by omega)]; rfl
    · exact h.zero j hj
  · rw [hs]
    split
    · rename_i e
      subst e
      rw [hbit, ← hrA, ← hrB, h.doms t j hd]
      rcases hd.back hn he with q | q
      · simp [q]
      · rw [h.doms t i q]; rfl
    · exact h.doms t j hd
  · have hop' : bitAt op a = false ∧ (comL to 0 A B = A ∨ a ≠ to) := by
      split at hop
      · rename_i e; exact ⟨hop, .inl e⟩
      · rw [bitAt_put _ _ _ (by rw [h.olen]; omega)] at hop
        simp only [Bool.or_eq_false_iff, decide_eq_false_iff_not] at hop
        exact ⟨hop.2, .inr hop.1⟩
    by_cases e : a = i ∧ b = to
    · obtain ⟨rfl, rfl⟩ := e
      have ht2 := ht
      rw [hs, if_pos rfl, hbit] at ht
      simp only [Bool.or_eq_true, Bool.and_eq_true, decide_eq_true_eq] at ht
      rcases ht with q | q
      · by_cases e2 : a = b
        · subst e2; exact .inl ht2
        · rw [hs, if_neg e2, hrB]; exact .inl q.2
      · exact .inr q
    · have hx' : ¬ X a b := fun q => hx ⟨q, e⟩
      rcases h.cls a b hab hop'.1 hx' t (hdown b t ht) with q | q
      · rcases hop'.2 with e2 | e2
        · refine .inl ?_
          rw [hs]
          split
          · rename_i e3; subst e3; rw [e2, ← hrA]; exact q
          · exact q
        · rw [hs, if_neg e2]; exact .inl q
      · exact .inr q
  · have := flatten_set S to A (comL to 0 A B) hA
    omega
  · intro hne
    have := flatten_set S to A (comL to 0 A B) hA
    have := s2 hne
    omega
end
end Go.Proofs.YtgkjhnghibpeoaaDoor
