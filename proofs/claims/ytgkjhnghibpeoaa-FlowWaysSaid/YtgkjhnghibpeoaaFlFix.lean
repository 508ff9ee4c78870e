/- Which blocks lie on every way: rows of bits that are gone over until nothing changes. Nothing here speaks of the program. -/
import Derived.Test.YtgkjhnghibpeoaaFlPlain
namespace Go.Proofs.Ytgkjhnghibpeoaa
open Go Go.Lib

def bitW (S : List Nat) (t : Nat) : Bool := ((S[t / 64]?).getD 0).testBit (t % 64)
def rowB (S : List (List Nat)) (j : Nat) : List Nat := (S[j]?).getD []
def hasB (S : List (List Nat)) (j t : Nat) : Bool := bitW (rowB S j) t
/-- What a word of to's set becomes. -/
def comW (to k a b : Nat) : Nat := if k = to / 64 then (a &&& b) ||| 2 ^ (to % 64) else a &&& b
def comL (to : Nat) : Nat → List Nat → List Nat → List Nat
  | k, a :: A, b :: B => comW to k a b :: comL to (k + 1) A B
  | _, A, _ => A
theorem comL_len (to : Nat) : ∀ (A : List Nat) (k : Nat) (B : List Nat), (comL to k A B).length = A.length := by
  intro A
  induction A with
  | nil => intro k B; simp [comL]
  | cons a A ih =>
    intro k B
    cases B with
    | nil => simp [comL]
    | cons b B => simp [comL, ih]
theorem comL_at (to : Nat) : ∀ (A : List Nat) (k : Nat) (B : List Nat) (i a b : Nat), A[i]? = some a → B[i]? = some b → (comL to k A B)[i]? = some (comW to (k + i) a b) := by
  intro A
  induction A with
  | nil => intro k B i a b h; simp at h
  | cons x A ih =>
    intro k B i a b ha hb
    cases B with
    | nil => simp at hb
    | cons y B =>
      cases i with
      | zero => simp at ha hb; subst ha hb; simp [comL]
      | succ i =>
        simp at ha hb
        rw [comL, List.getElem?_cons_succ, ih (k + 1) B i a b ha hb]
        rw [show k + 1 + i = k + (i + 1) by omega]
theorem comW_bit (to k a b t : Nat) (hk : k = t / 64) : (comW to k a b).testBit (t % 64) = (a.testBit (t % 64) && b.testBit (t % 64) || decide (t = to)) := by
  unfold comW
  by_cases h : k = to / 64
  · rw [if_pos h, Nat.testBit_or, Nat.testBit_and, Nat.testBit_two_pow]
    congr 1
    have : (to % 64 = t % 64) ↔ t = to := by omega
    simp [this]
  · rw [if_neg h, Nat.testBit_and]
    have : ¬ t = to := by intro e; subst e; exact h hk
    simp [this]
theorem comL_bit {to : Nat} {A B : List Nat} (hl : A.length = B.length) (ht : to < 64 * A.length) (t : Nat) : bitW (comL to 0 A B) t = (bitW A t && bitW B t || decide (t = to)) := by
  unfold bitW
  by_cases h : t / 64 < A.length
  · have ha := List.getElem?_eq_getElem h
    have hb := List.getElem?_eq_getElem (hl ▸ h : t / 64 < B.length)
    rw [comL_at to A 0 B (t / 64) _ _ ha hb, ha, hb]
    simp only [Option.getD_some]
    exact comW_bit to _ _ _ t (by omega)
  · rw [List.getElem?_eq_none (by rw [comL_len]; omega), List.getElem?_eq_none (by omega : A.length ≤ t / 64)]
    have : ¬ t = to := by intro e; subst e; omega
    simp [this]
theorem comW_lt {to k a b : Nat} (ha : a < 2 ^ 64) : comW to k a b < 2 ^ 64 := by
  unfold comW
  have h2 : a &&& b < 2 ^ 64 := Nat.lt_of_le_of_lt Nat.and_le_left ha
  split
  · exact Nat.or_lt_two_pow h2 (Nat.pow_lt_pow_right (by decide) (Nat.mod_lt _ (by decide)))
  · exact h2
theorem comW_le {to k a b : Nat} (h : k = to / 64 → a.testBit (to % 64) = true) : comW to k a b ≤ a := by
  unfold comW
  split
  · rename_i e
    have : (a &&& b) ||| 2 ^ (to % 64) = a &&& (b ||| 2 ^ (to % 64)) := by
      apply Nat.eq_of_testBit_eq
      intro i
      simp only [Nat.testBit_or, Nat.testBit_and, Nat.testBit_two_pow]
      by_cases q : to % 64 = i
      · subst q; simp [h e]
      · simp [q]
    rw [this]
    exact Nat.and_le_left
  · exact Nat.and_le_left
theorem comL_lt (to : Nat) : ∀ (A : List Nat) (k : Nat) (B : List Nat), (∀ w ∈ A, w < 2 ^ 64) → ∀ w ∈ comL to k A B, w < 2 ^ 64 := by
  intro A
  induction A with
  | nil => intro k B h w hw; simp [comL] at hw
  | cons a A ih =>
    intro k B h w hw
    cases B with
    | nil => simp only [comL] at hw; exact h w hw
    | cons b B =>
      simp only [comL, List.mem_cons] at hw
      rcases hw with rfl | hw
      · exact comW_lt (h a (by simp))
      · exact ih _ _ (fun x hx => h x (List.mem_cons_of_mem _ hx)) w hw
theorem comL_sum (to : Nat) : ∀ (A : List Nat) (k : Nat) (B : List Nat), (∀ i a, A[i]? = some a → k + i = to / 64 → a.testBit (to % 64) = true) → (comL to k A B).sum ≤ A.sum ∧ (comL to k A B ≠ A → (comL to k A B).sum < A.sum) := by
  intro A
  induction A with
  | nil => intro k B h; simp [comL]
  | cons a A ih =>
    intro k B h
    cases B with
    | nil => simp [comL]
    | cons b B =>
      obtain ⟨i1, i2⟩ := ih (k + 1) B (fun i x hx e => h (i + 1) x (by simpa using hx) (by omega))
      have hle := comW_le (to := to) (k := k) (a := a) (b := b) (fun e => h 0 a (by simp) (by omega))
      simp only [comL, List.sum_cons]
      refine ⟨by omega, fun hne => ?_⟩
      by_cases e1 : comW to k a b = a
      · have : comL to (k + 1) A B ≠ A := fun e2 => hne (by rw [e1, e2])
        have := i2 this
        omega
      · omega

/-! ### Sets of places -/
/-- One place leads to another one. -/
def Ed (bl : List Bk) (o : List Nat) (i j : Nat) : Prop := ∃ x y b, o[i]? = some x ∧ o[j]? = some y ∧ bl[x]? = some b ∧ (y : Int) ∈ nextF b
/-- A way to a block, and what it has met. -/
inductive Wy (bl : List Bk) : Nat → List Nat → Prop
  | base : Wy bl 0 [0]
  | step {t : Nat} {b : Bk} {y : Int} {M : List Nat} : Wy bl t M → bl[t]? = some b → y ∈ nextF b → Wy bl y.toNat (y.toNat :: M)
/-- What place t has lies on every way to what place j has. -/
def DomAt (bl : List Bk) (o : List Nat) (t j : Nat) : Prop := ∃ x y, o[t]? = some x ∧ o[j]? = some y ∧ ∀ M, Wy bl y M → x ∈ M
structure FixA (bl : List Bk) (o : List Nat) (S : List (List Nat)) (op : List Bool) (X : Nat → Nat → Prop) : Prop where
  len : S.length = o.length
  olen : op.length = o.length
  row : ∀ r ∈ S, r.length = (o.length + 63) / 64 ∧ ∀ w ∈ r, w < 2 ^ 64
  refl : ∀ j, j < o.length → hasB S j j = true
  zero : ∀ j, j < o.length → hasB S j 0 = true
  row0 : ∀ t, hasB S 0 t = true → t = 0
  doms : ∀ t j, DomAt bl o t j → hasB S j t = true
  cls : ∀ i j, Ed bl o i j → bitAt op i = false → ¬ X i j → ∀ t, hasB S j t = true → hasB S i t = true ∨ t = j
theorem hasB_set {S : List (List Nat)} {to : Nat} (h : to < S.length) (r : List Nat) (j t : Nat) : hasB (S.set to r) j t = if j = to then bitW r t else hasB S j t := by
  unfold hasB rowB
  rw [List.getElem?_set]
  by_cases e : to = j
  · subst e; simp [h]
  · rw [if_neg e, if_neg (fun q => e q.symm)]
theorem flatten_set : ∀ (S : List (List Nat)) (k : Nat) (A R : List Nat), S[k]? = some A → (S.set k R).flatten.sum + A.sum = S.flatten.sum + R.sum := by
  intro S
  induction S with
  | nil => intro k A R h; simp at h
  | cons x S ih =>
    intro k A R h
    cases k with
    | zero => simp at h; subst h; simp; omega
    | succ k => simp at h; have := ih k A R h; simp at this ⊢; omega
theorem some_lt {α : Type} {l : List α} {i : Nat} {x : α} (h : l[i]? = some x) : i < l.length := by
  by_cases e : i < l.length
  · exact e
  · rw [List.getElem?_eq_none (by omega)] at h; cases h
theorem nodup_at {o : List Nat} (h : o.Nodup) {i j x : Nat} (hi : o[i]? = some x) (hj : o[j]? = some x) : i = j := by
  have h1 := some_lt hi
  have h2 := some_lt hj
  rw [List.getElem?_eq_getElem h1] at hi
  rw [List.getElem?_eq_getElem h2] at hj
  injection hi with hi
  injection hj with hj
  have hp := List.pairwise_iff_getElem.1 h
  by_cases e : i = j
  · exact e
  · rcases Nat.lt_or_gt_of_ne e with q | q
    · exact absurd (hi.trans hj.symm) (hp i j h1 h2 q)
    · exact absurd (hj.trans hi.symm) (hp j i h2 h1 q)
theorem DomAt.back {bl : List Bk} {o : List Nat} (hn : o.Nodup) {t i j : Nat} (h : DomAt bl o t j) (he : Ed bl o i j) : t = j ∨ DomAt bl o t i := by
  obtain ⟨x, y, hx, hy, hm⟩ := h
  obtain ⟨x', y', b, hx', hy', hb, hin⟩ := he
  rw [hy] at hy'; cases hy'
  by_cases e : t = j
  · exact .inl e
  · refine .inr ⟨x, x', hx, hx', fun M hM => ?_⟩
    have := hm _ (by simpa using hM.step hb hin)
    rcases List.mem_cons.1 this with q | q
    · subst q; exact absurd (nodup_at hn hx hy) e
    · exact q
section
variable {bl : List Bk} {o : List Nat} {S : List (List Nat)} {op : List Bool} {X : Nat → Nat → Prop}
theorem FixA.rowAt (h : FixA bl o S op X) {j : Nat} (hj : j < o.length) : ∃ r, S[j]? = some r ∧ rowB S j = r ∧ r.length = (o.length + 63) / 64 ∧ ∀ w ∈ r, w < 2 ^ 64 := by
  have hj' : j < S.length := by rw [h.len]; exact hj
  refine ⟨_, List.getElem?_eq_getElem hj', by unfold rowB; rw [List.getElem?_eq_getElem hj']; rfl, h.row _ (List.getElem_mem hj')⟩
/-- One that leads to another one, gone over. -/
theorem FixA.com (h : FixA bl o S op X) (hn : o.Nodup) {i to : Nat} (he : Ed bl o i to) {A B : List Nat} (hA : S[to]? = some A) (hB : S[i]? = some B) :
    FixA bl o (S.set to (comL to 0 A B)) (if comL to 0 A B = A then op else op.set to true) (fun a b => X a b ∧ ¬ (a = i ∧ b = to))
      ∧ ((S.set to (comL to 0 A B)).flatten.sum ≤ S.flatten.sum) ∧ (comL to 0 A B ≠ A → (S.set to (comL to 0 A B)).flatten.sum < S.flatten.sum) := by
  have hto : to < S.length := some_lt hA
  have hi : i < S.length := some_lt hB
  obtain ⟨a1, a2⟩ := h.row A (List.mem_of_getElem? hA)
  obtain ⟨b1, b2⟩ := h.row B (List.mem_of_getElem? hB)
  have hlen := h.len
  have htl : to < 64 * A.length := by rw [a1]; omega
  have hbit := fun t => comL_bit (to := to) (a1.trans b1.symm) htl t
  have hrA : ∀ t, hasB S to t = bitW A t := fun t => by unfold hasB rowB; rw [hA]; rfl
  have hrB : ∀ t, hasB S i t = bitW B t := fun t => by unfold hasB rowB; rw [hB]; rfl
  have hself : bitW A to = true := by rw [← hrA]; exact h.refl to (by omega)
  have hs := fun j t => hasB_set hto (comL to 0 A B) j t
  have hdown : ∀ j t, hasB (S.set to (comL to 0 A B)) j t = true → hasB S j t = true := fun j t q => by
    rw [hs] at q
    split at q
    · rename_i e
      subst e
      rw [hbit] at q
      rw [hrA]
      simp only [Bool.or_eq_true, Bool.and_eq_true, decide_eq_true_eq] at q
      rcases q with q | q
      · exact q.1
      · rw [q]; exact hself
    · exact q
  obtain ⟨s1, s2⟩ := comL_sum to A 0 B (fun k a ha e => by
    unfold bitW at hself
    have e' : to / 64 = k := by omega
    rw [e', ha] at hself
    exact hself)
  refine ⟨⟨by simpa using h.len, ?_, fun r hr => ?_, fun j hj => ?_, fun j hj => ?_, fun t q => h.row0 t (hdown 0 t q), fun t j hd => ?_, fun a b hab hop hx t ht => ?_⟩, ?_, ?_⟩
  · split
    · exact h.olen
    · simpa using h.olen
  · rcases List.mem_or_eq_of_mem_set hr with hr | rfl
    · exact h.row r hr
    · exact ⟨by rw [comL_len]; exact a1, comL_lt to A 0 B a2⟩
  · rw [hs]
    split
    · rename_i e; subst e; rw [hbit]; simp
    · exact h.refl j hj
  · rw [hs]
    split
    · rename_i e; subst e; rw [hbit, ← hrA, ← hrB, h.zero j hj, h.zero i (by omega)]; rfl
    · exact h.zero j hj
  · rw [hs]
    split
    · rename_i e
      subst e
      rw [hbit, ← hrA, ← hrB, h.doms t j hd]
      rcases hd.back hn he with q | q
      · simp [q]
      · rw [h.doms t i q]; rfl
    · exact h.doms t j hd
  · have hop' : bitAt op a = false ∧ (comL to 0 A B = A ∨ a ≠ to) := by
      split at hop
      · rename_i e; exact ⟨hop, .inl e⟩
      · rw [bitAt_put _ _ _ (by rw [h.olen]; omega)] at hop
        simp only [Bool.or_eq_false_iff, decide_eq_false_iff_not] at hop
        exact ⟨hop.2, .inr hop.1⟩
    by_cases e : a = i ∧ b = to
    · obtain ⟨rfl, rfl⟩ := e
      have ht2 := ht
      rw [hs, if_pos rfl, hbit] at ht
      simp only [Bool.or_eq_true, Bool.and_eq_true, decide_eq_true_eq] at ht
      rcases ht with q | q
      · by_cases e2 : a = b
        · subst e2; exact .inl ht2
        · rw [hs, if_neg e2, hrB]; exact .inl q.2
      · exact .inr q
    · have hx' : ¬ X a b := fun q => hx ⟨q, e⟩
      rcases h.cls a b hab hop'.1 hx' t (hdown b t ht) with q | q
      · rcases hop'.2 with e2 | e2
        · refine .inl ?_
          rw [hs]
          split
          · rename_i e3; subst e3; rw [e2, ← hrA]; exact q
          · exact q
        · rw [hs, if_neg e2]; exact .inl q
      · exact .inr q
  · have := flatten_set S to A (comL to 0 A B) hA
    omega
  · intro hne
    have := flatten_set S to A (comL to 0 A B) hA
    have := s2 hne
    omega
end
end Go.Proofs.Ytgkjhnghibpeoaa
