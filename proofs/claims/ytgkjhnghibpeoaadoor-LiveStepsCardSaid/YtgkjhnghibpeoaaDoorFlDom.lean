/- What the rows of bits say when nothing changes any more; sides; what lies ahead. Nothing here speaks of the program. -/
import Derived.Test.YtgkjhnghibpeoaaDoorFlFix
namespace Go.Proofs.YtgkjhnghibpeoaaDoor
open Go Go.Lib

/-- Nothing is open any more. -/
def FixF (bl : List Bk) (o : List Nat) (S : List (List Nat)) : Prop := ∃ op, FixA bl o S op (fun _ _ => False) ∧ ∀ i, bitAt op i = false
theorem FixF.upper {bl : List Bk} {o : List Nat} {S : List (List Nat)} (h : FixF bl o S) (ho : OrdP bl o) : ∀ j, j < o.length → ∀ t, hasB S j t = true → t ≤ j := by
  obtain ⟨op, hf, hop⟩ := h
  intro j
  induction j using Nat.strongRecOn with
  | _ j ih =>
    intro hj t ht
    by_cases e : j = 0
    · subst e
      have := hf.row0 t ht
      omega
    · obtain ⟨i, y, b, hij, hy, hb, hin⟩ := ho.par j o[j] (by omega) (List.getElem?_eq_getElem hj)
      rcases hf.cls i j ⟨y, o[j], b, hy, List.getElem?_eq_getElem hj, hb, hin⟩ (hop i) (fun q => q) t ht with q | q
      · have := ih i hij (by omega) t q
        omega
      · omega
theorem FixF.ways {bl : List Bk} {o : List Nat} {S : List (List Nat)} (h : FixF bl o S) (ho : OrdP bl o) {x : Nat} {M : List Nat} (hw : Wy bl x M) :
    ∃ j, o[j]? = some x ∧ ∀ t, hasB S j t = true → ∃ y, o[t]? = some y ∧ y ∈ M := by
  obtain ⟨op, hf, hop⟩ := h
  induction hw with
  | base =>
    refine ⟨0, ho.top, fun t ht => ?_⟩
    have := hf.row0 t ht
    subst this
    exact ⟨0, ho.top, by simp⟩
  | @step t b y M hw hb hy ih =>
    obtain ⟨i, hi, hm⟩ := ih
    have hr : Rc bl y.toNat := ((ho.mem t).1 (List.mem_of_getElem? hi)).step hb hy
    obtain ⟨j, hj⟩ := List.mem_iff_getElem?.1 ((ho.mem _).2 hr)
    refine ⟨j, hj, fun u hu => ?_⟩
    by_cases hy0 : 0 ≤ y
    · rcases hf.cls i j ⟨t, y.toNat, b, hi, hj, hb, by rw [Int.toNat_of_nonneg hy0]; exact hy⟩ (hop i) (fun q => q) u hu with q | q
      · obtain ⟨z, hz, hzm⟩ := hm u q
        exact ⟨z, hz, List.mem_cons_of_mem _ hzm⟩
      · subst q; exact ⟨_, hj, by simp⟩
    · -- a negative number stands for block 0
      have e0 : y.toNat = 0 := by omega
      rw [e0] at hj ⊢
      have := nodup_at ho.nodup hj ho.top
      subst this
      have := hf.row0 u hu
      subst this
      exact ⟨0, ho.top, by simp⟩
theorem Wy.rc {bl : List Bk} {x : Nat} {M : List Nat} (h : Wy bl x M) : Rc bl x := by
  induction h with
  | base => exact .base
  | step _ hb hy ih => exact ih.step hb hy

/-- The greatest of a set but one; -1: none. -/
def LastP (S : List (List Nat)) (j : Nat) (v : Int) : Prop :=
  (v = -1 ∧ ∀ t, t ≠ j → hasB S j t = false) ∨ (∃ t : Nat, v = (t : Int) ∧ t ≠ j ∧ hasB S j t = true ∧ ∀ u, t < u → u ≠ j → hasB S j u = false)
/-- Behind k places of an order. -/
structure DomI (bl : List Bk) (o : List Nat) (S : List (List Nat)) (k : Nat) (D : List Int) : Prop where
  len : D.length = bl.length
  out : ∀ x, x < bl.length → x ∉ o.take k → D[x]? = some (-1)
  at' : ∀ j x, j < k → o[j]? = some x → ∃ v, LastP S j v ∧ ((v = -1 ∧ D[x]? = some (-1)) ∨ ∃ (t y : Nat), v = (t : Int) ∧ o[t]? = some y ∧ D[x]? = some (y : Int))
theorem DomI.start (bl : List Bk) (o : List Nat) (S : List (List Nat)) : DomI bl o S 0 (List.replicate bl.length (-1)) :=
  ⟨by simp, fun x hx _ => by rw [List.getElem?_replicate, if_pos hx], fun j x h => by omega⟩
theorem take_notin {o : List Nat} {k x y : Nat} (h : y ∉ o.take (k + 1)) (hx : o[k]? = some x) : y ∉ o.take k ∧ y ≠ x := by
  rw [List.take_add_one, hx] at h
  simp at h
  exact h
theorem DomI.none {bl : List Bk} {o : List Nat} {S : List (List Nat)} {k : Nat} {D : List Int} (h : DomI bl o S k D) (hn : o.Nodup) {x : Nat} (hx : o[k]? = some x) (hlt : x < bl.length) (hl : LastP S k (-1)) : DomI bl o S (k + 1) D := by
  refine ⟨h.len, fun y hy hn' => h.out y hy (take_notin hn' hx).1, fun j y hj hy => ?_⟩
  by_cases e : j = k
  · subst e
    rw [hx] at hy; cases hy
    refine ⟨-1, hl, .inl ⟨rfl, h.out x hlt (fun q => ?_)⟩⟩
    obtain ⟨i, hi⟩ := List.mem_iff_getElem?.1 q
    rw [List.getElem?_take] at hi
    split at hi
    · have := nodup_at hn hi hx; omega
    · cases hi
  · exact h.at' j y (by omega) hy
theorem DomI.put {bl : List Bk} {o : List Nat} {S : List (List Nat)} {k : Nat} {D : List Int} (h : DomI bl o S k D) (hn : o.Nodup) {x : Nat} (hx : o[k]? = some x) (hlt : x < bl.length) {t y : Nat} (hl : LastP S k (t : Int)) (hy : o[t]? = some y) : DomI bl o S (k + 1) (D.set x (y : Int)) := by
  have hget : ∀ z, (D.set x (y : Int))[z]? = if z = x then some (y : Int) else D[z]? := fun z => by
    rw [List.getElem?_set]
    by_cases e : x = z
    · subst e; rw [if_pos rfl, if_pos rfl, if_pos (by rw [h.len]; exact hlt)]
    · rw [if_neg e, if_neg (fun q => e q.symm)]
  refine ⟨by simpa using h.len, fun z hz hn' => ?_, fun j z hj hz => ?_⟩
  · have := take_notin hn' hx
    rw [hget, if_neg this.2]
    exact h.out z hz this.1
  · by_cases e : j = k
    · subst e
      rw [hx] at hz; cases hz
      exact ⟨t, hl, .inr ⟨t, y, rfl, hy, by rw [hget, if_pos rfl]⟩⟩
    · have hne : z ≠ x := fun q => by subst q; exact e (nodup_at hn hz hx)
      rw [hget, if_neg hne]
      exact h.at' j z (by omega) hz
/-- What Dom answers. -/
structure DomP (bl : List Bk) (o : List Nat) (D : List Int) : Prop where
  len : D.length = bl.length
  out : ∀ x, x < bl.length → ¬ Rc bl x → D[x]? = some (-1)
  top : D[0]? = some (-1)
  at' : ∀ j x, 0 < j → o[j]? = some x → ∃ (t y : Nat), t < j ∧ o[t]? = some y ∧ D[x]? = some (y : Int) ∧ (∀ M, Wy bl x M → y ∈ M) ∧ ∀ u, t < u → u < j → ¬ DomAt bl o u j
theorem domP_of {bl : List Bk} {o : List Nat} {S : List (List Nat)} {D : List Int} (hf : FixF bl o S) (ho : OrdP bl o) (h : DomI bl o S o.length D) : DomP bl o D := by
  obtain ⟨op, hfa, hop⟩ := id hf
  refine ⟨h.len, fun x hx hr => h.out x hx (fun q => hr ((ho.mem x).1 (List.mem_of_mem_take q))), ?_, fun j x hj hx => ?_⟩
  · obtain ⟨v, hl, hv⟩ := h.at' 0 0 ho.pos ho.top
    rcases hl with ⟨rfl, _⟩ | ⟨t, rfl, h1, h2, _⟩
    · rcases hv with ⟨_, q⟩ | ⟨t, y, q, _⟩
      · exact q
      · omega
    · exact absurd (hfa.row0 t h2) h1
  · have hjl := some_lt hx
    obtain ⟨v, hl, hv⟩ := h.at' j x hjl hx
    rcases hl with ⟨rfl, q⟩ | ⟨t, rfl, h1, h2, h3⟩
    · have := q 0 (by omega)
      rw [hfa.zero j hjl] at this
      cases this
    · have htj : t < j := by have := hf.upper ho j hjl t h2; omega
      rcases hv with ⟨q, _⟩ | ⟨t', y, q, hy, hd⟩
      · omega
      · have : t' = t := by omega
        subst this
        refine ⟨t', y, htj, hy, hd, fun M hM => ?_, fun u hu huj hdu => ?_⟩
        · obtain ⟨j', hj', hm⟩ := hf.ways ho hM
          have := nodup_at ho.nodup hj' hx
          subst this
          obtain ⟨y', hy', hin⟩ := hm t' h2
          rw [hy] at hy'; cases hy'
          exact hin
        · have := h3 u hu (by omega)
          rw [hfa.doms u j hdu] at this
          cases this

/-! ### Sides -/
def endB : List In → Bool → Bool
  | [], i => i
  | x :: l, i => endB l (if x.k = 13 then true else if x.k = 14 then false else i)
theorem endB_spec : ∀ (l : List In) (i : Bool), (endB l i = true ↔ behL l (if i = true then 2 else 1) = 2) := by
  intro l
  induction l with
  | nil => intro i; cases i <;> simp [endB, behL]
  | cons x l ih =>
    intro i
    rw [endB, behL, ih]
    unfold behI
    by_cases h13 : x.k = 13
    · simp [h13]
    · by_cases h14 : x.k = 14
      · simp [h14]
      · simp [h13, h14]
structure InsI (bl : List Bk) (o : List Nat) (k : Nat) (I : List Bool) : Prop where
  len : I.length = bl.length
  snd : ∀ x, bitAt I x = true → Rch bl x 2
  cmp : ∀ x, Rch bl x 2 → (∃ j y b, j < k ∧ o[j]? = some y ∧ bl[y]? = some b ∧ (x : Int) ∈ nextF b) → bitAt I x = true
theorem InsI.start (bl : List Bk) (o : List Nat) : InsI bl o 0 (List.replicate bl.length false) :=
  ⟨by simp, fun x h => absurd h (by rw [bitAt_new]; simp), fun x _ ⟨j, _, _, h, _⟩ => by omega⟩
theorem InsI.here {bl : List Bk} (hg : FOk bl) {o : List Nat} (ho : OrdP bl o) {k : Nat} {I : List Bool} (h : InsI bl o k I) {n : Nat} (hn : o[k]? = some n) : (bitAt I n = true ↔ Rch bl n 2) ∧ Rch bl n (if bitAt I n = true then 2 else 1) := by
  have h1 : bitAt I n = true ↔ Rch bl n 2 := by
    refine ⟨h.snd n, fun q => ?_⟩
    by_cases e : k = 0
    · subst e
      rw [ho.top] at hn; cases hn
      exact absurd ⟨.base, q⟩ (hg.side 0)
    · obtain ⟨j, y, b, hj, hy, hb, hin⟩ := ho.par k n (by omega) hn
      exact h.cmp n q ⟨j, y, b, hj, hy, hb, hin⟩
  refine ⟨h1, ?_⟩
  by_cases e : bitAt I n = true
  · rw [if_pos e]; exact h1.1 e
  · rw [if_neg e]
    obtain ⟨s, hs⟩ := ((ho.mem n).1 (List.mem_of_getElem? hn)).side hg
    rcases hs.two with rfl | rfl
    · exact hs
    · exact absurd (h1.2 hs) e
/-- Some of the blocks to which one leads have been told. -/
structure InsJ (bl : List Bk) (o : List Nat) (k : Nat) (on : Bool) (dn : List Int) (I : List Bool) : Prop extends InsI bl o k I where
  told : ∀ y ∈ dn, bitAt I y.toNat = on
theorem InsJ.put {bl : List Bk} (hg : FOk bl) {o : List Nat} {k : Nat} {on : Bool} {dn : List Int} {I : List Bool} (h : InsJ bl o k on dn I) {y : Int} (hl : y.toNat < bl.length) (hy : Rch bl y.toNat (if on = true then 2 else 1)) : InsJ bl o k on (dn ++ [y]) (I.set y.toNat on) := by
  have hget : ∀ x, bitAt (I.set y.toNat on) x = if x = y.toNat then on else bitAt I x := fun x => by
    unfold bitAt
    rw [List.getElem?_set]
    by_cases e : y.toNat = x
    · subst e; rw [if_pos rfl, if_pos rfl, if_pos (by rw [h.len]; exact hl)]; rfl
    · rw [if_neg e, if_neg (fun q => e q.symm)]
  refine ⟨⟨by simpa using h.len, fun x q => ?_, fun x q hx => ?_⟩, fun z hz => ?_⟩
  · rw [hget] at q
    split at q
    · rename_i e; subst e; rw [if_pos q] at hy; exact hy
    · exact h.snd x q
  · rw [hget]
    split
    · rename_i e; subst e
      cases on
      · exact absurd ⟨by simpa using hy, q⟩ (hg.side _)
      · rfl
    · exact h.cmp x q hx
  · rw [hget]
    split
    · rfl
    · rename_i e
      rcases List.mem_append.1 hz with hz | hz
      · exact h.told z hz
      · simp at hz; subst hz; exact absurd rfl e
theorem InsJ.next {bl : List Bk} {o : List Nat} {k : Nat} {on : Bool} {I : List Bool} {n : Nat} {b : Bk} (hn : o[k]? = some n) (hb : bl[n]? = some b) (h : InsJ bl o k on (nextF b) I) (hg : FOk bl) (hy : ∀ y ∈ nextF b, Rch bl y.toNat (if on = true then 2 else 1)) : InsI bl o (k + 1) I := by
  refine ⟨h.len, h.snd, fun x q hx => ?_⟩
  obtain ⟨j, y, b', hj, hy', hb', hin⟩ := hx
  by_cases e : j = k
  · subst e
    rw [hn] at hy'; cases hy'
    rw [hb] at hb'; cases hb'
    have h1 := h.told _ hin
    have h2 := hy _ hin
    simp only [Int.toNat_natCast] at h1 h2
    rw [h1]
    cases on
    · exact absurd ⟨by simpa using h2, q⟩ (hg.side _)
    · rfl
  · exact h.cmp x q ⟨j, y, b', by omega, hy', hb', hin⟩
theorem InsI.to {bl : List Bk} (hg : FOk bl) {o : List Nat} (ho : OrdP bl o) {k : Nat} {I : List Bool} (h : InsI bl o k I) {n : Nat} {b : Bk} (hn : o[k]? = some n) (hb : bl[n]? = some b) : ∀ y ∈ nextF b, Rch bl y.toNat (if endB b.ins (bitAt I n) = true then 2 else 1) := by
  intro y hy
  have h1 := (h.here hg ho hn).2.step hb ((nextF_mem (hg.last _ (List.mem_of_getElem? hb))).1 hy)
  have h2 := endB_spec b.ins (bitAt I n)
  have h3 := behL_12 b.ins (if bitAt I n = true then 2 else 1) (by split <;> simp)
  by_cases e : endB b.ins (bitAt I n) = true
  · rw [if_pos e]; rw [h2.1 e] at h1; exact h1
  · rw [if_neg e]
    rcases h3 with q | q
    · rw [q] at h1; exact h1
    · exact absurd (h2.2 q) e
/-- What Inside answers. -/
def InsP (bl : List Bk) (I : List Bool) : Prop := I.length = bl.length ∧ ∀ x, bitAt I x = true ↔ Rch bl x 2
theorem insP_of {bl : List Bk} (hg : FOk bl) {o : List Nat} (ho : OrdP bl o) {I : List Bool} (h : InsI bl o o.length I) : InsP bl I := by
  refine ⟨h.len, fun x => ⟨h.snd x, fun q => ?_⟩⟩
  obtain ⟨k, hk⟩ := List.mem_iff_getElem?.1 ((ho.mem x).2 (q.rc hg))
  by_cases e : k = 0
  · subst e
    rw [ho.top] at hk; cases hk
    exact absurd ⟨.base, q⟩ (hg.side 0)
  · obtain ⟨j, y, b, hj, hy, hb, hin⟩ := ho.par k x (by omega) hk
    exact h.cmp x q ⟨j, y, b, some_lt hy, hy, hb, hin⟩

/-! ### What lies ahead -/
def goesB (bl : List Bk) (n y : Nat) : Bool := match bl[n]? with
  | none => false
  | some b => decide ((y : Int) ∈ nextF b)
/-- The rows behind k blocks, of which the last has told some (dn) of those to which it leads. -/
def ahdR (bl : List Bk) (R : List Bool) (k y : Nat) : List Nat := (List.range k).filter fun n => bitAt R n && goesB bl n y
structure AhdI (bl : List Bk) (R : List Bool) (k : Nat) (A : List (List Nat)) : Prop where
  len : A.length = bl.length
  at' : ∀ y, y < bl.length → A[y]? = some (ahdR bl R k y)
theorem ahdR_succ (bl : List Bk) (R : List Bool) (k y : Nat) : ahdR bl R (k + 1) y = ahdR bl R k y ++ if (bitAt R k && goesB bl k y) = true then [k] else [] := by
  unfold ahdR
  rw [List.range_succ, List.filter_append]
  congr 1
  simp only [List.filter_cons, List.filter_nil]
theorem AhdI.start (bl : List Bk) (R : List Bool) : AhdI bl R 0 (List.replicate bl.length []) :=
  ⟨by simp, fun y hy => by rw [List.getElem?_replicate, if_pos hy]; rfl⟩
theorem AhdI.skip {bl : List Bk} {R : List Bool} {k : Nat} {A : List (List Nat)} (h : AhdI bl R k A) (hk : bitAt R k = false) : AhdI bl R (k + 1) A :=
  ⟨h.len, fun y hy => by rw [ahdR_succ, hk]; simpa using h.at' y hy⟩
structure AhdJ (bl : List Bk) (R : List Bool) (k : Nat) (dn : List Int) (A : List (List Nat)) : Prop where
  len : A.length = bl.length
  at' : ∀ y, y < bl.length → A[y]? = some (ahdR bl R k y ++ if (y : Int) ∈ dn then [k] else [])
theorem AhdI.begin {bl : List Bk} {R : List Bool} {k : Nat} {A : List (List Nat)} (h : AhdI bl R k A) : AhdJ bl R k [] A :=
  ⟨h.len, fun y hy => by simpa using h.at' y hy⟩
theorem AhdJ.put {bl : List Bk} {R : List Bool} {k : Nat} {dn : List Int} {A : List (List Nat)} (h : AhdJ bl R k dn A) {y : Int} (h0 : 0 ≤ y) (hl : y < (bl.length : Int)) (hn : y ∉ dn) : A[y.toNat]? = some (ahdR bl R k y.toNat) ∧ AhdJ bl R k (dn ++ [y]) (A.set y.toNat (ahdR bl R k y.toNat ++ [k])) := by
  refine ⟨by have := h.at' y.toNat (by omega); rw [Int.toNat_of_nonneg h0, if_neg hn, List.append_nil] at this; exact this, by simpa using h.len, fun z hz => ?_⟩
  rw [List.getElem?_set]
  by_cases e : y.toNat = z
  · subst e
    rw [if_pos rfl, if_pos (by rw [h.len]; exact hz), Int.toNat_of_nonneg h0, if_pos (by simp)]
  · rw [if_neg e, h.at' z hz]
    have : ((z : Int) ∈ dn ++ [y]) ↔ (z : Int) ∈ dn := by
      rw [List.mem_append]
      simp
      omega
    simp only [this]
theorem AhdJ.next {bl : List Bk} {R : List Bool} {k : Nat} {A : List (List Nat)} {b : Bk} (hb : bl[k]? = some b) (hk : bitAt R k = true) (h : AhdJ bl R k (nextF b) A) : AhdI bl R (k + 1) A :=
  ⟨h.len, fun y hy => by rw [h.at' y hy, ahdR_succ, hk]; unfold goesB; rw [hb]; simp⟩
theorem nextF_len (b : Bk) : (nextF b).length ≤ 2 := by
  unfold nextF
  split
  · simp
  · split <;> simp
theorem nextF_nodup (b : Bk) : (nextF b).Nodup := by
  unfold nextF
  split
  · exact List.nodup_nil
  · split
    · simp
    · rename_i h; simp; intro q; exact h (.inr q)
end Go.Proofs.YtgkjhnghibpeoaaDoor
