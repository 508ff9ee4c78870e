/- Sides by what is reached: what the marks say that a graph's blocks are given. Nothing here speaks of the program. -/
import Derived.Test.YtgkjhnghibpeoaaIrIn
namespace Go.Proofs.Ytgkjhnghibpeoaa
open Go Go.Lib

/-- A block may begin on a side (1: outside, 2: inside). -/
inductive Rch (bl : List Bk) : Nat → Nat → Prop
  | base : Rch bl 0 1
  | step {t s : Nat} {b : Bk} {y : Int} : Rch bl t s → bl[t]? = some b → y ∈ nextL b → Rch bl y.toNat (behL b.ins s)
theorem behL_12 : ∀ (l : List In) (s : Nat), s = 1 ∨ s = 2 → behL l s = 1 ∨ behL l s = 2 := by
  intro l
  induction l with
  | nil => intro s h; exact h
  | cons i l ih =>
    intro s h
    rw [behL]
    refine ih _ ?_
    unfold behI
    split
    · exact .inr rfl
    · split
      · exact .inl rfl
      · exact h
theorem Rch.two {bl : List Bk} {t s : Nat} (h : Rch bl t s) : s = 1 ∨ s = 2 := by
  induction h with
  | base => exact .inl rfl
  | step _ _ _ ih => exact behL_12 _ _ ih
def markOf (B : List Nat) (t : Nat) : Nat := (B[t]?).getD 0
/-- A mark on a side. -/
def Mk (B : List Nat) (t s : Nat) : Prop := (markOf B t) &&& s ≠ 0
def left1 (v : Nat) : Nat := if v = 0 then 2 else if v = 3 then 0 else 1
def leftB (B : List Nat) : Nat := (B.map left1).sum
theorem leftB_set : ∀ (B : List Nat) (t x : Nat), t < B.length → leftB (B.set t x) + left1 (markOf B t) = leftB B + left1 x := by
  intro B
  induction B with
  | nil => intro t x h; simp at h
  | cons v B ih =>
    intro t x h
    cases t with
    | zero => simp [leftB, markOf]; omega
    | succ t =>
      have := ih t x (by simpa using h)
      simp only [leftB, markOf, List.set_cons_succ, List.map_cons, List.sum_cons, List.getElem?_cons_succ] at this ⊢
      omega
theorem or_left {v s : Nat} (hv : v ≤ 3) (hs : s = 1 ∨ s = 2) (h : v &&& s = 0) : left1 (v ||| s) + 1 = left1 v ∧ v ||| s ≤ 3 := by
  have : v = 0 ∨ v = 1 ∨ v = 2 ∨ v = 3 := by omega
  rcases this with rfl | rfl | rfl | rfl <;> rcases hs with rfl | rfl <;> simp [left1] at h ⊢
theorem or_mk {v s r : Nat} (hv : v ≤ 3) (hs : s = 1 ∨ s = 2) (hr : r = 1 ∨ r = 2) : (v ||| s) &&& r ≠ 0 ↔ v &&& r ≠ 0 ∨ r = s := by
  have : v = 0 ∨ v = 1 ∨ v = 2 ∨ v = 3 := by omega
  rcases this with rfl | rfl | rfl | rfl <;> rcases hs with rfl | rfl <;> rcases hr with rfl | rfl <;> simp
theorem mark_set {B : List Nat} {t x n : Nat} (h : t < B.length) : markOf (B.set t x) n = if n = t then x else markOf B n := by
  unfold markOf
  rw [List.getElem?_set]
  by_cases e : t = n
  · subst e; simp [h]
  · rw [if_neg e, if_neg (fun q => e q.symm)]
/-- How the marks and the rows that wait stand to what is reached. -/
structure SInv (bl : List Bk) (B : List Nat) (S : List (Nat × Nat)) : Prop where
  len : B.length = bl.length
  le3 : ∀ t, markOf B t ≤ 3
  snd : ∀ t s, s = 1 ∨ s = 2 → Mk B t s → Rch bl t s
  sndS : ∀ p ∈ S, Rch bl p.1 p.2 ∧ p.1 < bl.length
  base : Mk B 0 1 ∨ (0, 1) ∈ S
  cls : ∀ t s b y, s = 1 ∨ s = 2 → Mk B t s → bl[t]? = some b → y ∈ nextL b → Mk B y.toNat (behL b.ins s) ∨ (y.toNat, behL b.ins s) ∈ S
theorem nextL_two (b : Bk) : (nextL b).length ≤ 2 := by
  unfold nextL
  split
  · simp
  · split <;> simp
theorem goS_inv (bl : List Bk) (hv : ∀ b ∈ bl, ∀ y ∈ nextL b, 0 ≤ y ∧ y < (bl.length : Int)) : ∀ (f : Nat) (B : List Nat) (S : List (Nat × Nat)), SInv bl B S → S.length + 2 * leftB B ≤ f → SInv bl (goS bl f B S) [] := by
  intro f
  induction f with
  | zero =>
    intro B S h hf
    have : S = [] := List.length_eq_zero_iff.1 (by omega)
    subst this
    exact h
  | succ f ih =>
    intro B S h hf
    cases S with
    | nil => exact h
    | cons p S =>
      obtain ⟨t, on⟩ := p
      obtain ⟨hR, ht⟩ := h.sndS (t, on) (by simp)
      have hon := hR.two
      dsimp only at hR ht hon
      have htB : t < B.length := by rw [h.len]; exact ht
      rw [goS]
      split
      · rename_i hz
        have hz' : markOf B t &&& on = 0 := hz
        obtain ⟨b, hb⟩ : ∃ b, bl[t]? = some b := ⟨_, List.getElem?_eq_getElem ht⟩
        rw [hb]
        dsimp only
        obtain ⟨o1, o2⟩ := or_left (h.le3 t) hon hz'
        have hmk : ∀ n s, s = 1 ∨ s = 2 → (Mk (B.set t ((B[t]?).getD 0 ||| on)) n s ↔ Mk B n s ∨ (n = t ∧ s = on)) := fun n s hs => by
          unfold Mk
          rw [mark_set htB]
          by_cases e : n = t
          · subst e
            rw [if_pos rfl]
            have := or_mk (h.le3 n) hon hs
            unfold markOf at this ⊢
            rw [this]
            constructor
            · rintro (q | q)
              · exact .inl q
              · exact .inr ⟨rfl, q⟩
            · rintro (q | ⟨-, q⟩)
              · exact .inl q
              · exact .inr q
          · rw [if_neg e]
            constructor
            · exact fun q => .inl q
            · rintro (q | ⟨q, -⟩)
              · exact q
              · exact absurd q e
        refine ih _ _ ⟨by simpa using h.len, fun n => ?_, fun n s hs hm => ?_, fun p hp => ?_, ?_, fun n s b' y hs hm hb' hy => ?_⟩ ?_
        · rw [mark_set htB]
          split
          · exact o2
          · exact h.le3 n
        · rcases (hmk n s hs).1 hm with q | ⟨rfl, rfl⟩
          · exact h.snd n s hs q
          · exact hR
        · rcases List.mem_append.1 hp with hp | hp
          · obtain ⟨y, hy, rfl⟩ := List.mem_map.1 (List.mem_reverse.1 hp)
            have := hv b (List.mem_of_getElem? hb) y hy
            exact ⟨hR.step hb hy, by dsimp only; omega⟩
          · exact h.sndS p (List.mem_cons_of_mem _ hp)
        · rcases h.base with q | q
          · exact .inl ((hmk 0 1 (.inl rfl)).2 (.inl q))
          · rcases List.mem_cons.1 q with q | q
            · cases q
              exact .inl ((hmk 0 1 (.inl rfl)).2 (.inr ⟨rfl, rfl⟩))
            · exact .inr (List.mem_append.2 (.inr q))
        · have hbs := behL_12 b'.ins s hs
          rcases (hmk n s hs).1 hm with q | ⟨rfl, rfl⟩
          · rcases h.cls n s b' y hs q hb' hy with q | q
            · exact .inl ((hmk _ _ hbs).2 (.inl q))
            · rcases List.mem_cons.1 q with q | q
              · cases q
                exact .inl ((hmk _ _ hbs).2 (.inr ⟨rfl, rfl⟩))
              · exact .inr (List.mem_append.2 (.inr q))
          · rw [hb] at hb'
            cases hb'
            exact .inr (List.mem_append.2 (.inl (List.mem_reverse.2 (List.mem_map.2 ⟨y, hy, rfl⟩))))
        · have h1 := leftB_set B t ((B[t]?).getD 0 ||| on) htB
          have h2 := nextL_two b
          have h3 : left1 ((B[t]?).getD 0 ||| on) + 1 = left1 (markOf B t) := o1
          simp only [List.length_append, List.length_reverse, List.length_map, List.length_cons] at hf ⊢
          omega
      · rename_i hz
        have hm : Mk B t on := hz
        refine ih _ _ ⟨h.len, h.le3, h.snd, fun p hp => h.sndS p (List.mem_cons_of_mem _ hp), ?_, fun n s b' y hs hm' hb' hy => ?_⟩ ?_
        · rcases h.base with q | q
          · exact .inl q
          · rcases List.mem_cons.1 q with q | q
            · cases q; exact .inl hm
            · exact .inr q
        · rcases h.cls n s b' y hs hm' hb' hy with q | q
          · exact .inl q
          · rcases List.mem_cons.1 q with q | q
            · cases q; exact .inl hm
            · exact .inr q
        · simp only [List.length_cons] at hf
          omega
theorem leftB_new (n : Nat) : leftB (List.replicate n 0) = 2 * n := by
  unfold leftB
  induction n with
  | zero => rfl
  | succ n ih => rw [List.replicate_succ, List.map_cons, List.sum_cons, ih]; simp [left1]; omega
/-- The marks are what is reached. -/
theorem begins_reach {bl : List Bk} (h0 : 0 < bl.length) (hv : ∀ b ∈ bl, ∀ y ∈ nextL b, 0 ≤ y ∧ y < (bl.length : Int)) :
    (beginsT bl).length = bl.length ∧ (∀ t, markOf (beginsT bl) t ≤ 3) ∧ ∀ t s, s = 1 ∨ s = 2 → (Mk (beginsT bl) t s ↔ Rch bl t s) := by
  have hnew : ∀ t, markOf (List.replicate bl.length 0) t = 0 := fun t => by
    unfold markOf
    rw [List.getElem?_replicate]
    split <;> rfl
  have h := goS_inv bl hv (6 * bl.length + 1) (List.replicate bl.length 0) [(0, 1)]
    ⟨by simp, fun t => by rw [hnew]; omega, fun t s _ hm => by unfold Mk at hm; rw [hnew] at hm; simp at hm, fun p hp => by
      simp at hp; subst hp; exact ⟨.base, h0⟩, .inr (by simp), fun t s b y _ hm => by unfold Mk at hm; rw [hnew] at hm; simp at hm⟩ (by rw [leftB_new]; simp; omega)
  refine ⟨h.len, h.le3, fun t s hs => ⟨h.snd t s hs, fun hr => ?_⟩⟩
  clear hs
  induction hr with
  | base =>
    rcases h.base with q | q
    · exact q
    · simp at q
  | step hr hb hy ih =>
    rcases h.cls _ _ _ _ hr.two ih hb hy with q | q
    · exact q
    · simp at q
/-- Two rows of truths that are closed and hold nothing but what is reached are the marks. -/
theorem mark_of {bl : List Bk} (h0 : 0 < bl.length) (hv : ∀ b ∈ bl, ∀ y ∈ nextL b, 0 ≤ y ∧ y < (bl.length : Int)) {I O : List Bool} 
    (h1 : ∀ t : Nat, (I[t]?).getD false = true ↔ Rch bl t 2) (h2 : ∀ t : Nat, (O[t]?).getD false = true ↔ Rch bl t 1) (t : Nat) :
    markOf (beginsT bl) t = (if (I[t]?).getD false = true then 2 else 0) + (if (O[t]?).getD false = true then 1 else 0) := by
  obtain ⟨-, hle, hk⟩ := begins_reach h0 hv
  have a := (hk t 1 (.inl rfl)).trans (h2 t).symm
  have b := (hk t 2 (.inr rfl)).trans (h1 t).symm
  have hl := hle t
  unfold Mk at a b
  generalize markOf (beginsT bl) t = v at a b hl
  have : v = 0 ∨ v = 1 ∨ v = 2 ∨ v = 3 := by omega
  rcases this with rfl | rfl | rfl | rfl <;> simp at a b <;> simp [a, b]
end Go.Proofs.Ytgkjhnghibpeoaa
namespace Go.Proofs.Ytgkjhnghibpeoaa
open Go Go.Lib

def behF : List In → Bool → Bool → Bool × Bool
  | [], i, o => (i, o)
  | x :: l, i, o => if x.k = 13 then behF l true false else if x.k = 14 then behF l false true else behF l i o
def behB (b : Bk) (i o : Bool) : Bool × Bool := if (i || o) = true then behF b.ins i o else (i, o)
theorem behF_spec : ∀ (l : List In) (i o : Bool), (i || o) = true → ((behF l i o).1 = true ↔ (i = true ∧ behL l 2 = 2) ∨ (o = true ∧ behL l 1 = 2)) ∧ ((behF l i o).2 = true ↔ (i = true ∧ behL l 2 = 1) ∨ (o = true ∧ behL l 1 = 1)) := by
  intro l
  induction l with
  | nil => intro i o _; simp [behF, behL]
  | cons x l ih =>
    intro i o h
    rw [behF, behL, behL]
    by_cases h13 : x.k = 13
    · have := ih true false rfl
      simp only [h13, if_true, behI, true_and, false_and, or_false, Bool.false_eq_true] at this ⊢
      rw [this.1, this.2]
      cases i <;> cases o <;> simp at h ⊢
    · by_cases h14 : x.k = 14
      · have := ih false true rfl
        simp only [h14, if_true, behI, true_and, false_and, false_or, Bool.false_eq_true] at this ⊢
        simp only [show ¬ (14 : Int) = 13 by decide, if_false] at this ⊢
        rw [this.1, this.2]
        cases i <;> cases o <;> simp at h ⊢
      · have := ih i o h
        simp only [h13, h14, if_false, behI] at this ⊢
        exact this
def bitAt (l : List Bool) (t : Nat) : Bool := (l[t]?).getD false
/-- Nothing but what is reached. -/
def SndB (bl : List Bk) (I O : List Bool) : Prop := ∀ t, (bitAt I t = true → Rch bl t 2) ∧ (bitAt O t = true → Rch bl t 1)
/-- Where a block's sides lead is marked. -/
def ClsB (I O : List Bool) (t : Nat) (b : Bk) : Prop := ∀ y ∈ nextL b, ((behB b (bitAt I t) (bitAt O t)).1 = true → bitAt I y.toNat = true) ∧ ((behB b (bitAt I t) (bitAt O t)).2 = true → bitAt O y.toNat = true)
theorem behB_snd {bl : List Bk} {I O : List Bool} (h : SndB bl I O) {t : Nat} {b : Bk} (hb : bl[t]? = some b) {y : Int} (hy : y ∈ nextL b) :
    ((behB b (bitAt I t) (bitAt O t)).1 = true → Rch bl y.toNat 2) ∧ ((behB b (bitAt I t) (bitAt O t)).2 = true → Rch bl y.toNat 1) := by
  unfold behB
  by_cases ho : (bitAt I t || bitAt O t) = true
  · rw [if_pos ho]
    obtain ⟨h1, h2⟩ := behF_spec b.ins _ _ ho
    rw [h1, h2]
    constructor
    · rintro (⟨a, e⟩ | ⟨a, e⟩)
      · have := ((h t).1 a).step hb hy; rw [e] at this; exact this
      · have := ((h t).2 a).step hb hy; rw [e] at this; exact this
    · rintro (⟨a, e⟩ | ⟨a, e⟩)
      · have := ((h t).1 a).step hb hy; rw [e] at this; exact this
      · have := ((h t).2 a).step hb hy; rw [e] at this; exact this
  · rw [if_neg ho]
    simp only [Bool.or_eq_true, not_or, Bool.not_eq_true] at ho
    simp [ho.1, ho.2]
theorem reach_both {bl : List Bk} {I O : List Bool} (hs : SndB bl I O) (h0 : bitAt O 0 = true) (hc : ∀ t b, bl[t]? = some b → ClsB I O t b) : ∀ t, (bitAt I t = true ↔ Rch bl t 2) ∧ (bitAt O t = true ↔ Rch bl t 1) := by
  have key : ∀ t s, Rch bl t s → (s = 2 → bitAt I t = true) ∧ (s = 1 → bitAt O t = true) := by
    intro t s h
    induction h with
    | base => exact ⟨fun q => (by cases q), fun _ => h0⟩
    | @step t s b y hr hb hy ih =>
      obtain ⟨c1, c2⟩ := hc t b hb y hy
      have hs2 := hr.two
      have ho : (bitAt I t || bitAt O t) = true := by
        rcases hs2 with q | q
        · rw [ih.2 q]; simp
        · rw [ih.1 q]; simp
      obtain ⟨h1, h2⟩ := behF_spec b.ins _ _ ho
      unfold behB at c1 c2
      rw [if_pos ho] at c1 c2
      constructor
      · intro q
        refine c1 (h1.2 ?_)
        rcases hs2 with r | r
        · exact .inr ⟨ih.2 r, by rw [r] at q; exact q⟩
        · exact .inl ⟨ih.1 r, by rw [r] at q; exact q⟩
      · intro q
        refine c2 (h2.2 ?_)
        rcases hs2 with r | r
        · exact .inr ⟨ih.2 r, by rw [r] at q; exact q⟩
        · exact .inl ⟨ih.1 r, by rw [r] at q; exact q⟩
  exact fun t => ⟨⟨(hs t).1, fun q => (key t 2 q).1 rfl⟩, ⟨(hs t).2, fun q => (key t 1 q).2 rfl⟩⟩
/-- How many are not marked yet. -/
def offs (l : List Bool) : Nat := (l.filter (fun b => !b)).length
theorem bitAt_set {l : List Bool} {t n : Nat} {x : Bool} (h : t < l.length) : bitAt (l.set t x) n = if n = t then x else bitAt l n := by
  unfold bitAt
  rw [List.getElem?_set]
  by_cases e : t = n
  · subst e; simp [h]
  · rw [if_neg e, if_neg (fun q => e q.symm)]
theorem offs_set : ∀ (l : List Bool) (t : Nat) (x : Bool), t < l.length → (bitAt l t = true → x = true) → (bitAt l t = x → offs (l.set t x) = offs l) ∧ (bitAt l t ≠ x → offs (l.set t x) + 1 = offs l) := by
  intro l
  induction l with
  | nil => intro t x h; simp at h
  | cons a l ih =>
    intro t x h hx
    cases t with
    | zero =>
      simp only [bitAt, List.getElem?_cons_zero, Option.getD_some] at hx
      cases a <;> cases x <;> simp [offs, bitAt] at hx ⊢
    | succ t =>
      obtain ⟨i1, i2⟩ := ih t x (by simpa using h) (by simpa [bitAt] using hx)
      simp only [bitAt, List.getElem?_cons_succ, List.set_cons_succ] at i1 i2 ⊢
      refine ⟨fun e => ?_, fun e => ?_⟩
      · have := i1 e
        cases a <;> simp only [offs, List.filter_cons, Bool.not_false, Bool.not_true, if_true, if_false, List.length_cons, Bool.false_eq_true] at this ⊢ <;> omega
      · have := i2 e
        cases a <;> simp only [offs, List.filter_cons, Bool.not_false, Bool.not_true, if_true, if_false, List.length_cons, Bool.false_eq_true] at this ⊢ <;> omega
theorem offs_le : ∀ l : List Bool, offs l ≤ l.length := fun l => by unfold offs; exact List.length_filter_le _ _
end Go.Proofs.Ytgkjhnghibpeoaa
