/- What is live, and how it is found. Nothing here speaks of the program. -/
import Derived.Test.YtgkjhnghibpeoaaDoorLvPut
import Derived.Test.YtgkjhnghibpeoaaDoorLvFits
import Derived.Test.YtgkjhnghibpeoaaDoorFlFix
namespace Go.Proofs.YtgkjhnghibpeoaaDoor
open Go Go.Lib

/-! ### What a stretch of a block does -/
def asksI (i : In) (r : Nat) : Bool := decide ((r : Int) = ask0 i) || (decide ((r : Int) = ask1 i) || decide ((r : Int) = ask2 i))
abbrev Dd := List Nat × List Nat
def stepD (i : In) (d : Dd) : Dd := (putI (putI (putI (takeI d.1 (wrI i)) (ask0 i)) (ask1 i)) (ask2 i), putI d.2 (wrI i))
def endD (b : Bk) : Dd := (if b.last = 2 then putI emptyS b.reg else emptyS, emptyS)
def deedL (b : Bk) : List In → Dd
  | [] => endD b
  | i :: l => stepD i (deedL b l)
def deedF (b : Bk) (k : Nat) : Dd := deedL b (b.ins.drop k)
def aheadS (d : Dd) (s : List Nat) : List Nat := withS (lessS s d.2) d.1
structure DOk (d : Dd) : Prop where
  a : SOk d.1
  c : SOk d.2
theorem endD_ok (b : Bk) : DOk (endD b) := ⟨by unfold endD; dsimp only; split; exact SOk.empty.putI _; exact SOk.empty, SOk.empty⟩
theorem stepD_ok (i : In) {d : Dd} (h : DOk d) : DOk (stepD i d) := ⟨(((h.a.takeI _).putI _).putI _).putI _, h.c.putI _⟩
theorem deedL_ok (b : Bk) : ∀ (l : List In), DOk (deedL b l)
  | [] => endD_ok b
  | i :: l => stepD_ok i (deedL_ok b l)
theorem deedF_ok (b : Bk) (k : Nat) : DOk (deedF b k) := deedL_ok b _
theorem ahead_ok {d : Dd} {s : List Nat} (h : DOk d) (k : SOk s) : SOk (aheadS d s) := (k.less h.c).with h.a
theorem has_ahead {d : Dd} {s : List Nat} (h : DOk d) (k : SOk s) (r : Nat) : hasS (aheadS d s) r = ((hasS s r && !hasS d.2 r) || hasS d.1 r) := by
  unfold aheadS
  rw [has_with (k.less h.c) h.a, has_less k h.c]
theorem rg_lt {R : Nat} (hR : R ≤ 1024) {x : Int} (h : Rg R x) : x = -1 ∨ 0 ≤ x ∧ x < 1024 := by
  rcases h with h | h
  · exact .inl h
  · exact .inr (by omega)
theorem has_step {R : Nat} (hR : R ≤ 1024) {i : In} (hi : IFit R i) {d : Dd} (h : DOk d) {s : List Nat} (k : SOk s) (r : Nat) :
    hasS (aheadS (stepD i d) s) r = (asksI i r || (hasS (aheadS d s) r && !decide ((r : Int) = wrI i))) := by
  rw [has_ahead (stepD_ok i h) k, has_ahead h k]
  unfold stepD asksI
  dsimp only
  have o1 := h.a.takeI (wrI i)
  have o2 := o1.putI (ask0 i)
  have o3 := o2.putI (ask1 i)
  rw [has_putI o3 (rg_lt hR hi.r2), has_putI o2 (rg_lt hR hi.r1), has_putI o1 (rg_lt hR hi.r0), has_takeI h.a (rg_lt hR hi.w), has_putI h.c (rg_lt hR hi.w)]
  generalize decide ((r : Int) = ask0 i) = x0
  generalize decide ((r : Int) = ask1 i) = x1
  generalize decide ((r : Int) = ask2 i) = x2
  generalize decide ((r : Int) = wrI i) = x3
  generalize hasS s r = y0
  generalize hasS d.1 r = y1
  generalize hasS d.2 r = y2
  revert x0 x1 x2 x3 y0 y1 y2
  decide
theorem deedF_step {b : Bk} {k : Nat} {i : In} (h : b.ins[k]? = some i) : deedF b k = stepD i (deedF b (k + 1)) := by
  have hk : k < b.ins.length := (List.getElem?_eq_some_iff.1 h).1
  have e : b.ins.drop k = i :: b.ins.drop (k + 1) := by
    rw [List.drop_eq_getElem_cons hk]
    congr 1
    rw [List.getElem?_eq_getElem hk] at h
    cases h; rfl
  unfold deedF
  rw [e]; rfl

/-! ### Rows of sets -/
def atS (S : List (List Nat)) (y : Nat) : List Nat := (S[y]?).getD emptyS
def atD (D : List Dd) (y : Nat) : Dd := (D[y]?).getD (emptyS, emptyS)
def atA (A : List (List Nat)) (y : Nat) : List Nat := (A[y]?).getD []
def AllOk (S : List (List Nat)) : Prop := ∀ s ∈ S, SOk s
theorem AllOk.at {S : List (List Nat)} (h : AllOk S) (y : Nat) : SOk (atS S y) := by
  unfold atS
  cases e : S[y]? with
  | none => exact SOk.empty
  | some s => exact h s (List.mem_of_getElem? e)
theorem AllOk.set {S : List (List Nat)} (h : AllOk S) (y : Nat) {s : List Nat} (k : SOk s) : AllOk (S.set y s) := fun x hx => by
  rcases List.mem_or_eq_of_mem_set hx with q | q
  · exact h x q
  · rw [q]; exact k
theorem atS_set {S : List (List Nat)} {n : Nat} (hn : n < S.length) (s : List Nat) (m : Nat) : atS (S.set n s) m = if m = n then s else atS S m := by
  unfold atS
  rw [List.getElem?_set]
  by_cases e : n = m
  · subst e; simp [hn]
  · rw [if_neg e, if_neg (fun q => e q.symm)]
theorem atS_get {S : List (List Nat)} {n : Nat} {s : List Nat} (h : S[n]? = some s) : atS S n = s := by unfold atS; rw [h]; rfl
def behS (S : List (List Nat)) (l : List Int) : List Nat := l.foldl (fun a y => withS a (atS S y.toNat)) emptyS
theorem beh_fold {S : List (List Nat)} (h : AllOk S) : ∀ (l : List Int) (a : List Nat), SOk a → SOk (l.foldl (fun a y => withS a (atS S y.toNat)) a) ∧ ∀ r, hasS (l.foldl (fun a y => withS a (atS S y.toNat)) a) r = (hasS a r || l.any fun y => hasS (atS S y.toNat) r) := by
  intro l
  induction l with
  | nil => intro a ha; exact ⟨ha, fun r => by simp⟩
  | cons y l ih =>
    intro a ha
    obtain ⟨h1, h2⟩ := ih _ (ha.with (h.at y.toNat))
    refine ⟨h1, fun r => ?_⟩
    rw [List.foldl_cons, h2, has_with ha (h.at _), List.any_cons, Bool.or_assoc]
theorem beh_ok {S : List (List Nat)} (h : AllOk S) (l : List Int) : SOk (behS S l) := (beh_fold h l _ SOk.empty).1
theorem has_beh {S : List (List Nat)} (h : AllOk S) (l : List Int) (r : Nat) : hasS (behS S l) r = l.any fun y => hasS (atS S y.toNat) r := by
  have := (beh_fold h l _ SOk.empty).2 r
  rw [has_empty, Bool.false_or] at this
  exact this
theorem beh_take {S : List (List Nat)} {l : List Int} {k : Nat} {y : Int} (h : l[k]? = some y) : behS S (l.take (k + 1)) = withS (behS S (l.take k)) (atS S y.toNat) := by
  unfold behS
  rw [List.take_add_one, h]
  simp

/-! ### What is live -/
inductive Live (bl : List Bk) : Nat → Nat → Prop
  | ask {n : Nat} {b : Bk} {r : Nat} : bl[n]? = some b → hasS (deedF b 0).1 r = true → Live bl n r
  | on {n : Nat} {b : Bk} {y : Int} {r : Nat} : bl[n]? = some b → y ∈ nextF b → Live bl y.toNat r → hasS (deedF b 0).2 r = false → Live bl n r
/-- The sets at the beginnings: those that are live. -/
structure LivP (bl : List Bk) (S : List (List Nat)) : Prop where
  len : S.length = bl.length
  ok : AllOk S
  live : ∀ n r, hasS (atS S n) r = true ↔ Live bl n r
/-- What is told at a beginning is what is live ahead of the first instruction. -/
theorem LivP.fix {bl : List Bk} {S : List (List Nat)} (h : LivP bl S) {n : Nat} {b : Bk} (hb : bl[n]? = some b) : aheadS (deedF b 0) (behS S (nextF b)) = atS S n := by
  have ho := deedF_ok b 0
  refine has_ext (ahead_ok ho (beh_ok h.ok _)) (h.ok.at n) fun r => ?_
  rw [has_ahead ho (beh_ok h.ok _), has_beh h.ok]
  cases e : hasS (atS S n) r with
  | true =>
    have hl := (h.live n r).1 e
    cases hl with
    | ask hb2 ha => rw [hb] at hb2; cases hb2; rw [ha, Bool.or_true]
    | on hb2 hy hl hc =>
      rw [hb] at hb2; cases hb2
      have : (nextF b).any (fun y => hasS (atS S y.toNat) r) = true := List.any_eq_true.2 ⟨_, hy, (h.live _ r).2 hl⟩
      rw [this, hc]; rfl
  | false =>
    have hno : ¬ Live bl n r := fun q => by rw [(h.live n r).2 q] at e; cases e
    cases ha : hasS (deedF b 0).1 r with
    | true => exact absurd (.ask hb ha) hno
    | false =>
      rw [Bool.or_false]
      cases hc : hasS (deedF b 0).2 r with
      | true => rw [Bool.not_true, Bool.and_false]
      | false =>
        rw [Bool.not_false, Bool.and_true]
        cases hn : (nextF b).any (fun y => hasS (atS S y.toNat) r) with
        | false => rfl
        | true =>
          obtain ⟨y, hy, hl⟩ := List.any_eq_true.1 hn
          exact absurd (.on hb hy ((h.live _ r).1 hl) hc) hno

/-! ### Growing -/
structure GrowP (D : List Dd) (A : List (List Nat)) (n : Nat) (live : List Nat) (S S' : List (List Nat)) : Prop where
  len : S'.length = S.length
  ok : AllOk S'
  mono : ∀ m r, hasS (atS S m) r = true → hasS (atS S' m) r = true
  got : ∀ r, hasS live r = true → hasS (atS S' n) r = true
  prop : ∀ m r, hasS (atS S' m) r = true → hasS (atS S m) r = false → ∀ f ∈ atA A m, hasS (atD D f).2 r = false → hasS (atS S' f) r = true
  just : ∀ L : Nat → Nat → Prop, (∀ m r f, f ∈ atA A m → L m r → hasS (atD D f).2 r = false → L f r) → (∀ m r, hasS (atS S m) r = true → L m r) → (∀ r, hasS live r = true → L n r) → ∀ m r, hasS (atS S' m) r = true → L m r
theorem less_empty {s t : List Nat} (h : SOk s) (k : SOk t) (e : lessS s t = emptyS) {r : Nat} (hr : hasS s r = true) : hasS t r = true := by
  have := has_less h k r
  rw [e, has_empty, hr] at this
  simpa using this.symm
theorem GrowP.nil {D : List Dd} {A : List (List Nat)} {n : Nat} {live : List Nat} {S : List (List Nat)} (hS : AllOk S) (hl : SOk live) (e : lessS live (atS S n) = emptyS) : GrowP D A n live S S :=
  ⟨rfl, hS, fun _ _ h => h, fun r h => less_empty hl (hS.at n) e h, fun m r h1 h2 => (by rw [h1] at h2; cases h2), fun _ _ h _ => h⟩
/-- Amid growing: what is new at n has gone back along the first k ways. -/
structure GrowL (D : List Dd) (A : List (List Nat)) (n : Nat) (new : List Nat) (S : List (List Nat)) (k : Nat) (S2 : List (List Nat)) : Prop where
  len : S2.length = S.length
  ok : AllOk S2
  mono : ∀ m r, hasS (atS S m) r = true → hasS (atS S2 m) r = true
  here : ∀ r, hasS new r = true → hasS (atS S2 n) r = true
  got : ∀ f ∈ (atA A n).take k, ∀ r, hasS new r = true → hasS (atD D f).2 r = false → hasS (atS S2 f) r = true
  prop : ∀ m r, hasS (atS S2 m) r = true → hasS (atS S m) r = false → (m = n ∧ hasS new r = true) ∨ ∀ f ∈ atA A m, hasS (atD D f).2 r = false → hasS (atS S2 f) r = true
  just : ∀ L : Nat → Nat → Prop, (∀ m r f, f ∈ atA A m → L m r → hasS (atD D f).2 r = false → L f r) → (∀ m r, hasS (atS S m) r = true → L m r) → (∀ r, hasS new r = true → L n r) → ∀ m r, hasS (atS S2 m) r = true → L m r
theorem GrowL.start {D : List Dd} {A : List (List Nat)} {n : Nat} {new : List Nat} {S : List (List Nat)} (hS : AllOk S) (hn : n < S.length) (hw : SOk new) : GrowL D A n new S 0 (S.set n (withS (atS S n) new)) := by
  have hat := fun m r => show hasS (atS (S.set n (withS (atS S n) new)) m) r = (hasS (atS S m) r || (decide (m = n) && hasS new r)) from by
    rw [atS_set hn]
    by_cases e : m = n
    · subst e; rw [if_pos rfl, has_with (hS.at _) hw]; simp
    · rw [if_neg e]; simp [e]
  refine ⟨by simp, hS.set n ((hS.at n).with hw), fun m r h => by rw [hat, h, Bool.true_or], fun r h => by rw [hat, h]; simp, fun f hf => by simp at hf, fun m r h1 h2 => ?_, fun L h1 h2 h3 m r h => ?_⟩
  · rw [hat, h2, Bool.false_or] at h1
    simp at h1
    exact .inl h1
  · rw [hat] at h
    simp only [Bool.or_eq_true, Bool.and_eq_true, decide_eq_true_eq] at h
    rcases h with h | ⟨rfl, h⟩
    · exact h2 m r h
    · exact h3 r h
theorem GrowL.next {D : List Dd} {A : List (List Nat)} {n f : Nat} {new : List Nat} {S S2 S3 : List (List Nat)} {k : Nat} (hD : DOk (atD D f)) (hw : SOk new) (h : GrowL D A n new S k S2) (hf : (atA A n)[k]? = some f)
    (hg : GrowP D A f (lessS new (atD D f).2) S2 S3) : GrowL D A n new S (k + 1) S3 := by
  have hl := fun r => has_less hw hD.c r
  refine ⟨hg.len.trans h.len, hg.ok, fun m r q => hg.mono m r (h.mono m r q), fun r q => hg.mono _ r (h.here r q), fun f' hf' r q1 q2 => ?_, fun m r q1 q2 => ?_, fun L h1 h2 h3 m r q => ?_⟩
  · rw [List.take_add_one, hf] at hf'
    simp at hf'
    rcases hf' with hf' | rfl
    · exact hg.mono _ r (h.got f' hf' r q1 q2)
    · exact hg.got r (by rw [hl, q1, q2]; rfl)
  · cases e : hasS (atS S2 m) r with
    | true =>
      rcases h.prop m r e q2 with p | p
      · exact .inl p
      · exact .inr fun f' hf' q => hg.mono _ r (p f' hf' q)
    | false => exact .inr (hg.prop m r q1 e)
  · refine hg.just L h1 (h.just L h1 h2 h3) (fun r' q' => ?_) m r q
    rw [hl] at q'
    simp only [Bool.and_eq_true, Bool.not_eq_true'] at q'
    exact h1 n r' f (List.mem_of_getElem? hf) (h3 r' q'.1) q'.2
theorem GrowL.done {D : List Dd} {A : List (List Nat)} {n : Nat} {live : List Nat} {S S2 : List (List Nat)} {k : Nat} (hS : AllOk S) (hl : SOk live) (h : GrowL D A n (lessS live (atS S n)) S k S2) (hk : (atA A n).length ≤ k) : GrowP D A n live S S2 := by
  have hls := fun r => has_less hl (hS.at n) r
  refine ⟨h.len, h.ok, h.mono, fun r q => ?_, fun m r q1 q2 f hf q3 => ?_, fun L h1 h2 h3 => h.just L h1 h2 fun r q => ?_⟩
  · cases e : hasS (atS S n) r with
    | true => exact h.mono n r e
    | false => exact h.here r (by rw [hls, q, e]; rfl)
  · rcases h.prop m r q1 q2 with ⟨rfl, p⟩ | p
    · exact h.got f (by rw [List.take_of_length_le hk]; exact hf) r p q3
    · exact p f hf q3
  · rw [hls] at q
    simp only [Bool.and_eq_true] at q
    exact h3 r q.1

/-! ### How much may still grow -/
theorem cnt_le {p q : Nat → Bool} : ∀ (l : List Nat), (∀ x ∈ l, p x = true → q x = true) → (l.filter p).length ≤ (l.filter q).length := by
  intro l
  induction l with
  | nil => intro _; simp
  | cons a l ih =>
    intro h
    have := ih fun x hx => h x (List.mem_cons_of_mem _ hx)
    rw [List.filter_cons, List.filter_cons]
    cases hp : p a with
    | true => rw [h a (by simp) hp]; simpa using this
    | false => cases q a <;> simp <;> omega
theorem cnt_lt {p q : Nat → Bool} : ∀ (l : List Nat), (∀ x ∈ l, p x = true → q x = true) → (∃ x ∈ l, q x = true ∧ p x = false) → (l.filter p).length < (l.filter q).length := by
  intro l
  induction l with
  | nil => intro _ h; obtain ⟨x, hx, _⟩ := h; simp at hx
  | cons a l ih =>
    intro h hx
    have hl := cnt_le l fun x hx => h x (List.mem_cons_of_mem _ hx)
    rw [List.filter_cons, List.filter_cons]
    obtain ⟨x, hx, h1, h2⟩ := hx
    rcases List.mem_cons.1 hx with rfl | hx
    · rw [h1, h2]; simp; omega
    · have := ih (fun x hx => h x (List.mem_cons_of_mem _ hx)) ⟨x, hx, h1, h2⟩
      cases hp : p a with
      | true => rw [h a (by simp) hp]; simpa using this
      | false => cases q a <;> simp <;> omega
def leftS (s : List Nat) : Nat := 1024 - (listS s).length
def leftAll (S : List (List Nat)) : Nat := (S.map leftS).sum
theorem list_le (s : List Nat) : (listS s).length ≤ 1024 := by
  have := List.length_filter_le (hasS s) (List.range 1024)
  simpa [listS] using this
theorem left_set : ∀ (S : List (List Nat)) (n : Nat) (s t : List Nat), S[n]? = some s → leftAll (S.set n t) + leftS s = leftAll S + leftS t := by
  intro S
  induction S with
  | nil => intro n s t h; simp at h
  | cons a S ih =>
    intro n s t h
    cases n with
    | zero => simp at h; subst h; simp [leftAll]; omega
    | succ n =>
      simp at h
      have := ih n s t h
      simp only [leftAll, List.set_cons_succ, List.map_cons, List.sum_cons] at this ⊢
      omega
theorem left_mono : ∀ (S S' : List (List Nat)), S'.length = S.length → (∀ m r, hasS (atS S m) r = true → hasS (atS S' m) r = true) → leftAll S' ≤ leftAll S := by
  intro S
  induction S with
  | nil =>
    intro S' h _
    have e : S' = [] := List.length_eq_zero_iff.1 (by simpa using h)
    rw [e]; exact Nat.le_refl _
  | cons a S ih =>
    intro S' h hm
    cases S' with
    | nil => simp at h
    | cons b S' =>
      have h1 := ih S' (by simpa using h) fun m r q => hm (m + 1) r q
      have h2 : (listS a).length ≤ (listS b).length := cnt_le _ fun x _ q => hm 0 x q
      simp only [leftAll, List.map_cons, List.sum_cons, leftS] at h1 ⊢
      omega
/-- Where something is new, less is left. -/
theorem left_lt {S : List (List Nat)} {n : Nat} {live : List Nat} (hS : AllOk S) (hn : n < S.length) (hl : SOk live) (hne : lessS live (atS S n) ≠ emptyS) : leftAll (S.set n (withS (atS S n) (lessS live (atS S n)))) < leftAll S := by
  have hw := hl.less (hS.at n)
  have hx : ∃ r, hasS (lessS live (atS S n)) r = true := by
    by_cases e : ∃ r, hasS (lessS live (atS S n)) r = true
    · exact e
    · refine absurd (has_ext hw SOk.empty fun r => ?_) hne
      rw [has_empty]
      cases q : hasS (lessS live (atS S n)) r with
      | false => rfl
      | true => exact absurd ⟨r, q⟩ e
  obtain ⟨r, hr⟩ := hx
  have h1 : S[n]? = some (atS S n) := by unfold atS; rw [List.getElem?_eq_getElem hn]; rfl
  have h2 := left_set S n _ (withS (atS S n) (lessS live (atS S n))) h1
  have h3 : (listS (atS S n)).length < (listS (withS (atS S n) (lessS live (atS S n)))).length := by
    refine cnt_lt _ (fun x _ q => by rw [has_with (hS.at n) hw, q]; rfl) ⟨r, List.mem_range.2 (has_lt hw hr), by rw [has_with (hS.at n) hw, hr, Bool.or_true], ?_⟩
    have := has_less hl (hS.at n) r
    rw [hr] at this
    cases q : hasS (atS S n) r with
    | false => rfl
    | true => rw [q] at this; simp at this
  have h4 := list_le (withS (atS S n) (lessS live (atS S n)))
  unfold leftS at h2
  omega

/-! ### Settling -/
/-- Row n stands behind those of l, each. -/
def pushA (A : List (List Nat)) (n : Nat) (l : List Int) : List (List Nat) := l.foldl (fun A y => A.set y.toNat (atA A y.toNat ++ [n])) A
theorem atA_set {A : List (List Nat)} {n : Nat} (hn : n < A.length) (s : List Nat) (m : Nat) : atA (A.set n s) m = if m = n then s else atA A m := by
  unfold atA
  rw [List.getElem?_set]
  by_cases e : n = m
  · subst e; simp [hn]
  · rw [if_neg e, if_neg (fun q => e q.symm)]
theorem pushA_len (n : Nat) : ∀ (l : List Int) (A : List (List Nat)), (pushA A n l).length = A.length := by
  intro l
  induction l with
  | nil => intro A; rfl
  | cons y l ih => intro A; unfold pushA at ih ⊢; rw [List.foldl_cons, ih]; simp
theorem pushA_mem (n : Nat) : ∀ (l : List Int) (A : List (List Nat)), (∀ y ∈ l, 0 ≤ y ∧ y < (A.length : Int)) → ∀ m f, f ∈ atA (pushA A n l) m ↔ f ∈ atA A m ∨ (f = n ∧ (m : Int) ∈ l) := by
  intro l
  induction l with
  | nil => intro A _ m f; simp [pushA]
  | cons y l ih =>
    intro A hl m f
    have hy := hl y (by simp)
    have := ih (A.set y.toNat (atA A y.toNat ++ [n])) (fun z hz => by rw [List.length_set]; exact hl z (by simp [hz])) m f
    unfold pushA at this ⊢
    rw [List.foldl_cons, this, atA_set (by omega)]
    by_cases e : m = y.toNat
    · subst e
      rw [if_pos rfl]
      simp only [List.mem_append, List.mem_cons, List.not_mem_nil, or_false]
      have : ((y.toNat : Nat) : Int) = y := by omega
      rw [this]
      constructor
      · rintro ((h | h) | h)
        · exact .inl h
        · exact .inr ⟨h, .inl rfl⟩
        · exact .inr ⟨h.1, .inr h.2⟩
      · rintro (h | ⟨h, _⟩)
        · exact .inl (.inl h)
        · exact .inl (.inr h)
    · rw [if_neg e]
      have : ¬ ((m : Int) = y) := by omega
      simp [this]
theorem pushA_at (n : Nat) : ∀ (l : List Int) (A : List (List Nat)), l.Nodup → (∀ y ∈ l, 0 ≤ y ∧ y < (A.length : Int)) → ∀ m, atA (pushA A n l) m = if (m : Int) ∈ l then atA A m ++ [n] else atA A m := by
  intro l
  induction l with
  | nil => intro A _ _ m; simp [pushA]
  | cons y l ih =>
    intro A hnd hl m
    have hy := hl y (by simp)
    obtain ⟨hn1, hn2⟩ := List.nodup_cons.1 hnd
    have := ih (A.set y.toNat (atA A y.toNat ++ [n])) hn2 (fun z hz => by rw [List.length_set]; exact hl z (by simp [hz])) m
    unfold pushA at this ⊢
    rw [List.foldl_cons, this, atA_set (by omega)]
    by_cases e : m = y.toNat
    · subst e
      have h1 : ((y.toNat : Nat) : Int) = y := by omega
      rw [h1, if_neg hn1, if_pos rfl, if_pos (by simp)]
    · have h1 : ¬ ((m : Int) = y) := by omega
      rw [if_neg e]
      simp only [List.mem_cons, h1, false_or]
theorem cntT_fold : ∀ (l : List Nat) (M : List Bool), l.Nodup → (∀ x ∈ l, M[x]? = some false) → cntT (l.foldl (fun M x => M.set x true) M) = cntT M + l.length := by
  intro l
  induction l with
  | nil => intro M _ _; simp
  | cons a l ih =>
    intro M hnd h
    obtain ⟨h1, h2⟩ := List.nodup_cons.1 hnd
    rw [List.foldl_cons, ih _ h2 (fun x hx => by
      rw [List.getElem?_set, if_neg (by intro e; subst e; exact h1 hx)]
      exact h x (by simp [hx])), cntT_set M a (h a (by simp)), List.length_cons]
    omega
theorem fold_len : ∀ (l : List Nat) (M : List Bool), (l.foldl (fun M x => M.set x true) M).length = M.length := by
  intro l
  induction l with
  | nil => intro M; rfl
  | cons a l ih => intro M; rw [List.foldl_cons, ih]; simp
theorem nodup_le {l : List Nat} {N : Nat} (h : l.Nodup) (hl : ∀ x ∈ l, x < N) : l.length ≤ N := by
  have h1 := cntT_fold l (List.replicate N false) h (fun x hx => by rw [List.getElem?_replicate, if_pos (hl x hx)])
  have h2 := cntT_le (l.foldl (fun M x => M.set x true) (List.replicate N false))
  rw [fold_len, List.length_replicate] at h2
  omega
theorem cntT_mono : ∀ (M M' : List Bool), M'.length = M.length → (∀ m : Nat, M[m]? = some true → M'[m]? = some true) → cntT M ≤ cntT M' := by
  intro M
  induction M with
  | nil => intro M' _ _; simp [cntT]
  | cons a M ih =>
    intro M' hl h
    cases M' with
    | nil => simp at hl
    | cons c M' =>
      have h1 := ih M' (by simpa using hl) fun m q => by simpa using h (m + 1) (by simpa using q)
      have h2 : a = true → c = true := fun q => by simpa using h 0 (by simp [q])
      simp only [cntT]
      cases a
      · simp; omega
      · rw [h2 rfl]; simp; omega
theorem pushA_take {A : List (List Nat)} {n : Nat} {l : List Int} {k : Nat} {y : Int} (h : l[k]? = some y) : pushA A n (l.take (k + 1)) = (pushA A n (l.take k)).set y.toNat (atA (pushA A n (l.take k)) y.toNat ++ [n]) := by
  unfold pushA
  rw [List.take_add_one, h]
  simp
structure SetP (bl : List Bk) (M : List Bool) (dn : Nat → Prop) (S : List (List Nat)) (D : List Dd) (A : List (List Nat)) : Prop where
  ml : M.length = bl.length
  sl : S.length = bl.length
  dl : D.length = bl.length
  al : A.length = bl.length
  ok : AllOk S
  dok : ∀ d ∈ D, DOk d
  snd : ∀ m r, hasS (atS S m) r = true → Live bl m r
  dd : ∀ m, dn m → ∃ b, bl[m]? = some b ∧ atD D m = deedF b 0
  aa : ∀ m f, f ∈ atA A m → dn f ∧ ∃ b, bl[f]? = some b ∧ (m : Int) ∈ nextF b
  cl : ∀ m b, dn m → bl[m]? = some b → (∀ r, hasS (deedF b 0).1 r = true → hasS (atS S m) r = true) ∧ ∀ y ∈ nextF b, m ∈ atA A y.toNat ∧ ∀ r, hasS (atS S y.toNat) r = true → hasS (deedF b 0).2 r = false → hasS (atS S m) r = true
  met : ∀ m, dn m → M[m]? = some true
  nd : ∀ m, (atA A m).Nodup
theorem atD_set {D : List Dd} {n : Nat} (hn : n < D.length) (s : Dd) (m : Nat) : atD (D.set n s) m = if m = n then s else atD D m := by
  unfold atD
  rw [List.getElem?_set]
  by_cases e : n = m
  · subst e; simp [hn]
  · rw [if_neg e, if_neg (fun q => e q.symm)]
theorem SetP.dat {bl : List Bk} {M : List Bool} {dn : Nat → Prop} {S : List (List Nat)} {D : List Dd} {A : List (List Nat)} (h : SetP bl M dn S D A) (m : Nat) : DOk (atD D m) := by
  unfold atD
  cases e : D[m]? with
  | none => exact ⟨SOk.empty, SOk.empty⟩
  | some d => exact h.dok d (List.mem_of_getElem? e)
theorem SetP.settle {bl : List Bk} (hg : FOk bl) {M : List Bool} {dn : Nat → Prop} {S S' : List (List Nat)} {D : List Dd} {A : List (List Nat)} (h : SetP bl M dn S D A) {n : Nat} {b : Bk} (hb : bl[n]? = some b) (hn : ¬ dn n) (hM : M[n]? = some true) (hnn : (nextF b).Nodup)
    (hgr : GrowP (D.set n (deedF b 0)) (pushA A n (nextF b)) n (aheadS (deedF b 0) (behS S (nextF b))) S S') : SetP bl M (fun m => dn m ∨ m = n) S' (D.set n (deedF b 0)) (pushA A n (nextF b)) := by
  have hnl : n < bl.length := (List.getElem?_eq_some_iff.1 hb).1
  have hdo := deedF_ok b 0
  have hpm := pushA_mem n (nextF b) A (fun y hy => by rw [h.al]; exact hg.lt hb hy)
  have hds := fun m => atD_set (D := D) (by rw [h.dl]; exact hnl) (deedF b 0) m
  have hda : ∀ m, dn m → atD (D.set n (deedF b 0)) m = atD D m := fun m hm => by
    rw [hds, if_neg]
    intro e; subst e; exact hn hm
  have hdn : atD (D.set n (deedF b 0)) n = deedF b 0 := by rw [hds, if_pos rfl]
  have hah := fun r => has_ahead hdo (beh_ok h.ok (nextF b)) r
  have hat : ∀ {y : Int}, y ∈ nextF b → ((y.toNat : Nat) : Int) = y := fun hy => by have := hg.lt hb hy; omega
  refine ⟨h.ml, hgr.len.trans h.sl, by simpa using h.dl, by rw [pushA_len]; exact h.al, hgr.ok, fun d hd => ?_, hgr.just (Live bl) (fun m r f hf hl hc => ?_) h.snd (fun r hr => ?_), fun m hm => ?_, fun m f hf => ?_, fun m bm hm hbm => ?_, fun m hm => ?_, fun m => ?_⟩
  · rcases List.mem_or_eq_of_mem_set hd with q | q
    · exact h.dok d q
    · rw [q]; exact hdo
  · rcases (hpm m f).1 hf with q | ⟨rfl, q⟩
    · obtain ⟨hf1, bf, hbf, hy⟩ := h.aa m f q
      rw [hda f hf1] at hc
      obtain ⟨b', hb', e⟩ := h.dd f hf1
      rw [hbf] at hb'; cases hb'
      rw [e] at hc
      exact .on hbf hy (by simpa using hl) hc
    · rw [hdn] at hc
      exact .on hb q (by simpa using hl) hc
  · rw [hah, has_beh h.ok] at hr
    simp only [Bool.or_eq_true, Bool.and_eq_true, Bool.not_eq_true'] at hr
    rcases hr with ⟨h1, h2⟩ | h1
    · obtain ⟨y, hy, hl⟩ := List.any_eq_true.1 h1
      exact .on hb hy (h.snd _ r hl) h2
    · exact .ask hb h1
  · rcases hm with hm | rfl
    · obtain ⟨b', hb', e⟩ := h.dd m hm
      exact ⟨b', hb', by rw [hda m hm]; exact e⟩
    · exact ⟨b, hb, hdn⟩
  · rcases (hpm m f).1 hf with q | ⟨rfl, q⟩
    · obtain ⟨h1, h2⟩ := h.aa m f q
      exact ⟨.inl h1, h2⟩
    · exact ⟨.inr rfl, b, hb, q⟩
  · by_cases e : m = n
    · subst e
      rw [hb] at hbm; cases hbm
      refine ⟨fun r hr => hgr.got r (by rw [hah, hr, Bool.or_true]), fun y hy => ⟨(hpm _ _).2 (.inr ⟨rfl, by rw [hat hy]; exact hy⟩), fun r hr hc => ?_⟩⟩
      cases q : hasS (atS S y.toNat) r with
      | true => exact hgr.got r (by rw [hah, has_beh h.ok, List.any_eq_true.2 ⟨y, hy, q⟩, hc]; rfl)
      | false => exact hgr.prop y.toNat r hr q m ((hpm _ _).2 (.inr ⟨rfl, by rw [hat hy]; exact hy⟩)) (by rw [hdn]; exact hc)
    · have hm' : dn m := hm.elim id fun q => absurd q e
      obtain ⟨h1, h2⟩ := h.cl m bm hm' hbm
      refine ⟨fun r hr => hgr.mono m r (h1 r hr), fun y hy => ⟨(hpm _ _).2 (.inl (h2 y hy).1), fun r hr hc => ?_⟩⟩
      cases q : hasS (atS S y.toNat) r with
      | true => exact hgr.mono m r ((h2 y hy).2 r q hc)
      | false =>
        refine hgr.prop y.toNat r hr q m ((hpm _ _).2 (.inl (h2 y hy).1)) ?_
        rw [hda m hm']
        obtain ⟨b', hb', e'⟩ := h.dd m hm'
        rw [hbm] at hb'; cases hb'
        rw [e']; exact hc
  · rcases hm with hm | rfl
    · exact h.met m hm
    · exact hM
  · rw [pushA_at n _ A hnn (fun y hy => by rw [h.al]; exact hg.lt hb hy)]
    split
    · refine List.nodup_append.2 ⟨h.nd m, by simp, fun a ha c hc => ?_⟩
      simp at hc
      rintro rfl
      subst hc
      exact hn (h.aa m _ ha).1
    · exact h.nd m
theorem SetP.more {bl : List Bk} {M : List Bool} {dn : Nat → Prop} {S : List (List Nat)} {D : List Dd} {A : List (List Nat)} (h : SetP bl M dn S D A) (n : Nat) : SetP bl (M.set n true) dn S D A :=
  ⟨by simpa using h.ml, h.sl, h.dl, h.al, h.ok, h.dok, h.snd, h.dd, h.aa, h.cl, fun m hm => by
    have := h.met m hm
    rw [List.getElem?_set]
    by_cases e : n = m
    · subst e; rw [if_pos rfl, if_pos (List.getElem?_eq_some_iff.1 this).1]
    · rw [if_neg e]; exact this, h.nd⟩
theorem SetP.rows {bl : List Bk} {M : List Bool} {dn : Nat → Prop} {S : List (List Nat)} {D : List Dd} {A : List (List Nat)} (h : SetP bl M dn S D A) (m : Nat) : (∀ f ∈ atA A m, f < bl.length) ∧ (atA A m).length ≤ bl.length := by
  have h1 : ∀ f ∈ atA A m, f < bl.length := fun f hf => by
    obtain ⟨_, b, hb, _⟩ := h.aa m f hf
    exact (List.getElem?_eq_some_iff.1 hb).1
  exact ⟨h1, nodup_le (h.nd m) h1⟩
theorem SetP.start (bl : List Bk) : SetP bl (List.replicate bl.length false) (fun _ => False) (List.replicate bl.length emptyS) (List.replicate bl.length (emptyS, emptyS)) (List.replicate bl.length []) := by
  have h1 : ∀ m, atS (List.replicate bl.length emptyS) m = emptyS := fun m => by unfold atS; rw [List.getElem?_replicate]; split <;> rfl
  have h2 : ∀ m, atA (List.replicate bl.length ([] : List Nat)) m = [] := fun m => by unfold atA; rw [List.getElem?_replicate]; split <;> rfl
  refine ⟨by simp, by simp, by simp, by simp, fun s hs => ?_, fun d hd => ?_, fun m r h => ?_, fun _ h => False.elim h, fun m f hf => ?_, fun _ _ h => False.elim h, fun _ h => False.elim h, fun m => by rw [h2]; exact List.nodup_nil⟩
  · rw [(List.mem_replicate.1 hs).2]; exact SOk.empty
  · rw [(List.mem_replicate.1 hd).2]; exact ⟨SOk.empty, SOk.empty⟩
  · rw [h1, has_empty] at h; cases h
  · rw [h2] at hf; simp at hf
/-- Where all is settled, what is told is what is live. -/
theorem SetP.live {bl : List Bk} {M : List Bool} {dn : Nat → Prop} {S : List (List Nat)} {D : List Dd} {A : List (List Nat)} (h : SetP bl M dn S D A) (hd : ∀ m, m < bl.length → dn m) : LivP bl S := by
  refine ⟨h.sl, h.ok, fun n r => ⟨h.snd n r, fun q => ?_⟩⟩
  induction q with
  | ask hb ha => exact (h.cl _ _ (hd _ (List.getElem?_eq_some_iff.1 hb).1) hb).1 _ ha
  | on hb hy _ hc ih => exact ((h.cl _ _ (hd _ (List.getElem?_eq_some_iff.1 hb).1) hb).2 _ hy).2 _ ih hc
end Go.Proofs.YtgkjhnghibpeoaaDoor
