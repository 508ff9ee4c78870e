/- Threads are looked at one by one: the pure side; and parts of a row of threads in memory. -/
import Derived.Test.YtgndpcoplkhhgaaGreatDoorRows
import Derived.Test.YtgndpcoplkhhgaaGreatDoorIrCheck
namespace Go.Proofs.YtgndpcoplkhhgaaGreatDoor
open Go Go.Lib Go.RowKit

theorem checkL_ok {W : Int} : ∀ (l : List Gr) (n : Nat), (∀ g ∈ l, (checkG W g).2 = 0) → checkL W n l = (0, (0, 0), 0) := by
  intro l
  induction l with
  | nil => intro n _; rfl
  | cons g l ih =>
    intro n h
    rw [checkL, if_pos (h g (List.mem_cons_self ..))]
    exact ih _ fun a ha => h a (List.mem_cons_of_mem _ ha)
theorem checkL_bad {W : Int} : ∀ (l : List Gr) (n t : Nat) (g : Gr), l[t]? = some g → (∀ (i : Nat) a, i < t → l[i]? = some a → (checkG W a).2 = 0) → (checkG W g).2 ≠ 0 → checkL W n l = (n + t, checkG W g) := by
  intro l
  induction l with
  | nil => intro n t g h; simp at h
  | cons a l ih =>
    intro n t g h h1 h2
    rw [checkL]
    cases t with
    | zero =>
      simp at h; subst h
      rw [if_neg h2]; rfl
    | succ t =>
      simp at h
      rw [if_pos (h1 0 a (by omega) rfl), ih (n + 1) t g h (fun i b hi hb => h1 (i + 1) b (by omega) (by simpa using hb)) h2]
      rw [show n + 1 + t = n + (t + 1) by omega]
theorem checkL_spec {W : Int} (l : List Gr) : (∀ g ∈ l, (checkG W g).2 = 0) ∨ ∃ t g, l[t]? = some g ∧ (∀ (i : Nat) a, i < t → l[i]? = some a → (checkG W a).2 = 0) ∧ (checkG W g).2 ≠ 0 := by
  induction l with
  | nil => exact .inl fun _ h => by cases h
  | cons a l ih =>
    by_cases ha : (checkG W a).2 = 0
    · rcases ih with h | ⟨t, g, h1, h2, h3⟩
      · refine .inl fun g hg => ?_
        rcases List.mem_cons.1 hg with rfl | hg
        · exact ha
        · exact h g hg
      · refine .inr ⟨t + 1, g, by simpa using h1, fun i b hi hb => ?_, h3⟩
        cases i with
        | zero => simp at hb; subst hb; exact ha
        | succ i => exact h2 i b (by omega) (by simpa using hb)
    · exact .inr ⟨0, a, rfl, fun i _ hi => by omega, ha⟩
/-- What the law asks of a thread: found alone, and as the last of the first ones. -/
def Asked (i : Nat) (Y u v : Nat × (Nat × Nat) × Int) : Prop :=
  u.1 = 0 ∧ ((Y.2.2 = 0 ∧ u.2.2 = 0 ∧ v.2.2 = 0) ∨ (Y.2.2 ≠ 0 ∧ i < Y.1 ∧ u.2.2 = 0 ∧ v.2.2 = 0) ∨ (Y.2.2 ≠ 0 ∧ Y.1 < i ∧ v = Y) ∨ (Y.2.2 ≠ 0 ∧ Y.1 = i ∧ v = Y ∧ u.2 = Y.2))
theorem checkC_in {W : Int} {l : List Gr} (h0 : 0 ≤ W) (h1 : W ≤ 65536) (h2 : l.length ≤ 4) : checkC W l = checkL W 0 l := by
  unfold checkC
  rw [if_neg (by omega), if_neg (by omega)]
theorem one_of {W : Int} (g : Gr) : checkL W 0 [g] = if (checkG W g).2 = 0 then (0, (0, 0), 0) else (0, checkG W g) := by
  rw [checkL]; rfl
theorem asked {W : Int} {l : List Gr} (h0 : 0 ≤ W) (h1 : W ≤ 65536) (h2 : l.length ≤ 4) (i : Nat) (g : Gr) (hg : l[i]? = some g) : Asked i (checkC W l) (checkC W [g]) (checkC W (l.take (i + 1))) := by
  have hi : i < l.length := (List.getElem?_eq_some_iff.1 hg).1
  rw [checkC_in h0 h1 h2, checkC_in h0 h1 (show [g].length ≤ 4 by simp), checkC_in h0 h1 (show (l.take (i + 1)).length ≤ 4 by rw [List.length_take]; omega), one_of]
  refine ⟨by split <;> rfl, ?_⟩
  rcases checkL_spec (W := W) l with h | ⟨t, b, hb, h3, h4⟩
  · refine .inl ⟨by rw [checkL_ok l 0 h], by rw [if_pos (h g (List.mem_of_getElem? hg))], by rw [checkL_ok _ 0 fun a ha => h a (List.mem_of_mem_take ha)]⟩
  · have hY := checkL_bad l 0 t b hb h3 h4
    rw [Nat.zero_add] at hY
    refine .inr ?_
    rw [hY]
    rcases Nat.lt_trichotomy i t with hlt | rfl | hgt
    · refine .inl ⟨h4, hlt, by rw [if_pos (h3 i g hlt hg)], ?_⟩
      rw [checkL_ok _ 0 fun a ha => ?_]
      obtain ⟨j, hj, rfl⟩ := List.getElem_of_mem ha
      rw [List.length_take] at hj
      refine h3 j _ (by omega) ?_
      rw [List.getElem_take, List.getElem?_eq_getElem (by omega)]
    · have hgb : g = b := Option.some.inj (hg.symm.trans hb)
      subst hgb
      refine .inr (.inr ⟨h4, rfl, ?_, by rw [if_neg h4]⟩)
      rw [checkL_bad _ 0 i g (by rw [List.getElem?_take, if_pos (by omega)]; exact hb) (fun j a hj ha => h3 j a hj (by rw [List.getElem?_take, if_pos (by omega)] at ha; exact ha)) h4, Nat.zero_add]
    · refine .inr (.inl ⟨h4, hgt, ?_⟩)
      rw [checkL_bad _ 0 t b (by rw [List.getElem?_take, if_pos (by omega)]; exact hb) (fun j a hj ha => h3 j a hj (by rw [List.getElem?_take] at ha; split at ha; exact ha; cases ha)) h4, Nat.zero_add]
theorem checkC_out {W : Int} {l : List Gr} (h : W < 0 ∨ 65536 < W ∨ 4 < l.length) : ∃ e, e ≠ 0 ∧ checkC W l = (0, (0, 0), e) := by
  unfold checkC
  split
  · exact ⟨3, by decide, rfl⟩
  · rw [if_pos (by omega)]; exact ⟨14, by decide, rfl⟩

/-- The i-th thing alone, and the first ones. -/
theorem LiesG.one {α : Type} {cells : α → List Value} {k : Nat} {w : World} {B g off n cap : Nat} {l : List α} (h : LiesG cells k w B (.slice (some ⟨g, off, none⟩) n cap) l) (i : Nat) (x : α) (hx : l[i]? = some x) (cap' : Nat) :
    LiesG cells k w B (.slice (some ⟨g, off + i * k, none⟩) 1 cap') [x] := by
  have hi : i < l.length := (List.getElem?_eq_some_iff.1 hx).1
  have hxx : l[i] = x := (List.getElem?_eq_some_iff.1 hx).2
  obtain ⟨hg, hc⟩ := h.at rfl i hi
  rw [hxx] at hc
  refine ⟨_, cap', rfl, by simp, .inr ⟨g, off + i * k, rfl, hg, fun j y hy q u hu => ?_⟩⟩
  cases j with
  | zero =>
    simp at hy; subst hy
    rw [Nat.zero_mul, Nat.zero_add]
    exact hc q u hu
  | succ j => simp at hy
theorem LiesG.first {α : Type} {cells : α → List Value} {k : Nat} {w : World} {B g off n cap : Nat} {l : List α} (h : LiesG cells k w B (.slice (some ⟨g, off, none⟩) n cap) l) (i : Nat) (hi : i < l.length) (cap' : Nat) :
    LiesG cells k w B (.slice (some ⟨g, off, none⟩) (i + 1) cap') (l.take (i + 1)) := by
  obtain ⟨hg, -⟩ := h.at rfl i hi
  have hr := h.room
  have hlen : (l.take (i + 1)).length = i + 1 := by rw [List.length_take]; omega
  refine ⟨_, cap', by rw [hlen], by rw [hlen]; omega, .inr ⟨g, off, rfl, hg, fun j y hy q u hu => ?_⟩⟩
  rw [List.getElem?_take] at hy
  split at hy
  case isFalse => cases hy
  have hj : j < l.length := (List.getElem?_eq_some_iff.1 hy).1
  have := (h.at rfl j hj).2 q u (by rw [(List.getElem?_eq_some_iff.1 hy).2]; exact hu)
  rw [← Nat.add_assoc]
  exact this
end Go.Proofs.YtgndpcoplkhhgaaGreatDoor
