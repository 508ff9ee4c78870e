/- Plain facts about numbers as texts: the text of a number is read as that number, and nothing else is read as it; by the library's functions and by the document's own. Nothing here speaks of the program. -/
import Derived.Lib.ItoaMem
import Derived.Lib.ParseIntB
namespace Go.Proofs.YtflbplljlkpeiaaDoor
open Go Go.Lib

theorem few_digits : ∀ (k u : Nat), u < 10 ^ (k + 1) → nDigits u ≤ k + 1
  | 0, u, h => by rw [nDigits_small (by simpa using h)]; exact Nat.le_refl _
  | k + 1, u, h => by
    by_cases g : u < 10
    · rw [nDigits_small g]; omega
    · rw [nDigits_big g]
      have := few_digits k (u / 10) (by rw [Nat.pow_succ] at h; omega)
      omega

theorem itoa_short (n : Int) (h0 : -9223372036854775808 ≤ n) (h1 : n ≤ 9223372036854775807) : (itoa n).length ≤ 20 := by
  unfold itoa
  split
  · rw [List.length_cons, decDigits_length]
    have := few_digits 18 n.natAbs (by omega)
    omega
  · rw [decDigits_length]
    have := few_digits 18 n.toNat (by omega)
    omega

theorem digit_nat (k : Nat) (h : k < 10) : (UInt8.ofNat (48 + k)).toNat = 48 + k := by
  simp; omega

theorem decDigits_small (u : Nat) (h : u < 10) : decDigits u = [UInt8.ofNat (48 + u)] := decDigits_one h
theorem decDigits_big (u : Nat) (h : ¬ u < 10) : decDigits u = decDigits (u / 10) ++ [UInt8.ofNat (48 + u % 10)] := by
  rw [decDigits, dif_neg h]
theorem decDigits_more (a d : Nat) (ha : 1 ≤ a) (hd : d < 10) : decDigits (a * 10 + d) = decDigits a ++ [UInt8.ofNat (48 + d)] := by
  rw [decDigits_big _ (by omega), show (a * 10 + d) / 10 = a by omega, show (a * 10 + d) % 10 = d by omega]

/-- The first digit: it is no 0, but of a number that has no other. -/
theorem decDigits_front (u : Nat) : ∃ c r, decDigits u = c :: r ∧ 48 ≤ c.toNat ∧ c.toNat ≤ 57 ∧ (10 ≤ u → c.toNat ≠ 48) := by
  induction u using Nat.strongRecOn with
  | _ u ih =>
    by_cases h : u < 10
    · exact ⟨_, [], decDigits_small u h, by rw [digit_nat _ h]; omega, by rw [digit_nat _ h]; omega, by omega⟩
    · obtain ⟨c, r, e, g0, g1, g2⟩ := ih (u / 10) (by omega)
      refine ⟨c, r ++ [UInt8.ofNat (48 + u % 10)], by rw [decDigits_big u h, e]; rfl, g0, g1, fun _ => ?_⟩
      by_cases k : 10 ≤ u / 10
      · exact g2 k
      · rw [decDigits_small (u / 10) (by omega)] at e
        injection e with e _
        rw [← e, digit_nat _ (by omega)]
        omega

theorem uint_digits (M : Nat) (hM : M < 18446744073709551616) : ∀ (u : Nat) (r : List UInt8), u ≤ M → parseUintM M 0 (decDigits u ++ r) = parseUintM M u r := by
  intro u
  induction u using Nat.strongRecOn with
  | _ u ih =>
    intro r hu
    by_cases h : u < 10
    · rw [decDigits_small u h]
      show parseUintM M 0 (UInt8.ofNat (48 + u) :: r) = _
      rw [parseUintM, digit_nat u h, if_pos (by omega), if_neg (by omega), if_neg (by omega), show 0 * 10 + (48 + u - 48) = u by omega]
    · rw [decDigits_big u h, List.append_assoc, ih (u / 10) (by omega) _ (by omega)]
      show parseUintM M (u / 10) (UInt8.ofNat (48 + u % 10) :: r) = _
      rw [parseUintM]
      rw [digit_nat (u % 10) (by omega), if_pos (by omega), if_neg (by omega), if_neg (by omega), show u / 10 * 10 + (48 + u % 10 - 48) = u by omega]

theorem uint_back (u : Nat) (h : u < 18446744073709551616) : parseUintB 64 (decDigits u) = .ok u := by
  have e := uint_digits 18446744073709551615 (by omega) u [] (by omega)
  rw [List.append_nil] at e
  unfold parseUintB
  rw [if_neg, show 2 ^ 64 - 1 = 18446744073709551615 from rfl, e]
  · rfl
  · obtain ⟨c, r, e, _⟩ := decDigits_front u
    rw [e]; exact fun h => by cases h

theorem int_back (n : Int) (h0 : -9223372036854775808 ≤ n) (h1 : n ≤ 9223372036854775807) : parseIntB 64 (itoa n) = .ok n := by
  unfold itoa
  split
  · rename_i hn
    unfold parseIntB
    simp only
    rw [if_pos (Or.inr (by decide)), uint_back _ (by omega)]
    simp only
    rw [if_neg (by simp), if_neg (by omega), if_pos (by decide)]
    congr 1; omega
  · rename_i hn
    obtain ⟨c, r, e, g0, g1, _⟩ := decDigits_front n.toNat
    have eb := uint_back n.toNat (by omega)
    rw [e] at eb ⊢
    unfold parseIntB
    simp only
    rw [if_neg (by omega), eb]
    simp only
    rw [if_neg (by omega), if_neg (by omega), if_neg (by omega)]
    congr 1; omega

/-! ### The document's own way -/
def digitsTo (most : Nat) : Nat → List UInt8 → Option Nat
  | acc, [] => some acc
  | acc, c :: r => if c.toNat < 48 ∨ 57 < c.toNat then none else if (most - (c.toNat - 48)) / 10 < acc then none else digitsTo most (acc * 10 + (c.toNat - 48)) r
def digitsN (most : Nat) (l : List UInt8) : Option Nat :=
  if l.length < 1 ∨ 20 < l.length ∨ (1 < l.length ∧ l.head? = some 48) then none else digitsTo most 0 l

theorem digits_on (most : Nat) (hm : 9 ≤ most) : ∀ (u : Nat) (r : List UInt8), u ≤ most → digitsTo most 0 (decDigits u ++ r) = digitsTo most u r := by
  intro u
  induction u using Nat.strongRecOn with
  | _ u ih =>
    intro r hu
    by_cases h : u < 10
    · rw [decDigits_small u h]
      show digitsTo most 0 (UInt8.ofNat (48 + u) :: r) = _
      rw [digitsTo, digit_nat u h, if_neg (by omega), if_neg (by omega), show 0 * 10 + (48 + u - 48) = u by omega]
    · rw [decDigits_big u h, List.append_assoc, ih (u / 10) (by omega) _ (by omega)]
      show digitsTo most (u / 10) (UInt8.ofNat (48 + u % 10) :: r) = _
      rw [digitsTo, digit_nat (u % 10) (by omega), if_neg (by omega), if_neg (by omega), show u / 10 * 10 + (48 + u % 10 - 48) = u by omega]

theorem ofNat_digit (c : UInt8) (h0 : 48 ≤ c.toNat) : UInt8.ofNat (48 + (c.toNat - 48)) = c := by
  rw [show 48 + (c.toNat - 48) = c.toNat by omega]; exact UInt8.ofNat_toNat

theorem digits_of (most : Nat) (hm : 9 ≤ most) : ∀ (l : List UInt8) (acc u : Nat), 1 ≤ acc → acc ≤ most → digitsTo most acc l = some u → decDigits acc ++ l = decDigits u ∧ u ≤ most
  | [], acc, u, _, hb, h => by
    rw [digitsTo] at h
    injection h with h
    subst h
    exact ⟨List.append_nil _, hb⟩
  | c :: r, acc, u, ha, hb, h => by
    rw [digitsTo] at h
    split at h
    · cases h
    · rename_i hc
      split at h
      · cases h
      · rename_i hl
        obtain ⟨e, g⟩ := digits_of most hm r _ u (by omega) (by omega) h
        refine ⟨?_, g⟩
        rw [← e, decDigits_more acc _ ha (by omega), ofNat_digit c (by omega), List.append_assoc]
        rfl

theorem digitsN_some (most : Nat) (hm : 9 ≤ most) (hs : most < 10 ^ 20) (l : List UInt8) (u : Nat) : digitsN most l = some u ↔ l = decDigits u ∧ u ≤ most := by
  constructor
  · intro h
    unfold digitsN at h
    split at h
    · cases h
    · rename_i hc
      cases l with
      | nil => exfalso; simp at hc
      | cons c r =>
        rw [digitsTo] at h
        split at h
        · cases h
        · rename_i hd
          split at h
          · cases h
          · rw [show 0 * 10 + (c.toNat - 48) = c.toNat - 48 by omega] at h
            by_cases hz : 1 ≤ c.toNat - 48
            · obtain ⟨e, g⟩ := digits_of most hm r _ u hz (by omega) h
              refine ⟨?_, g⟩
              rw [← e, decDigits_small _ (by omega), ofNat_digit c (by omega)]
              rfl
            · have hc48 : c = 48 := UInt8.toNat_inj.1 (by show c.toNat = 48; omega)
              cases r with
              | nil =>
                rw [digitsTo] at h
                injection h with h
                subst h
                refine ⟨?_, by omega⟩
                rw [decDigits_small _ (by omega), ofNat_digit c (by omega)]
              | cons c2 r2 =>
                exfalso
                apply hc
                refine Or.inr (Or.inr ⟨by simp, by simp [hc48]⟩)
  · rintro ⟨rfl, hu⟩
    obtain ⟨c, r, e, g0, g1, g2⟩ := decDigits_front u
    have hl : (decDigits u).length ≤ 20 := by rw [decDigits_length]; exact few_digits 19 u (by omega)
    have ht := digits_on most hm u [] hu
    rw [List.append_nil] at ht
    unfold digitsN
    rw [if_neg]
    · rw [ht, digitsTo]
    · rintro (h | h | ⟨h, h2⟩)
      · rw [e] at h; simp at h
      · omega
      · by_cases k : 10 ≤ u
        · rw [e] at h2
          simp at h2
          exact g2 k (by rw [h2]; rfl)
        · rw [decDigits_small u (by omega)] at h; simp at h

/-- The document's answer for a text. -/
def asksN (l : List UInt8) : Option Int :=
  if l.head? = some 45 then
    (match digitsN 9223372036854775808 (l.drop 1) with | some u => (if u = 0 then none else some (-(u : Int))) | none => none)
  else
    (match digitsN 9223372036854775807 l with | some u => some (u : Int) | none => none)

theorem asks_some (l : List UInt8) (v : Int) : asksN l = some v ↔ l = itoa v ∧ -9223372036854775808 ≤ v ∧ v ≤ 9223372036854775807 := by
  unfold asksN
  constructor
  · intro h
    split at h
    · rename_i hh
      cases l with
      | nil => simp at hh
      | cons c r =>
        simp at hh
        subst hh
        rw [show (45 :: r : List UInt8).drop 1 = r from rfl] at h
        cases hd : digitsN 9223372036854775808 r with
        | none => rw [hd] at h; cases h
        | some u =>
          rw [hd] at h
          simp only at h
          obtain ⟨e, g⟩ := (digitsN_some _ (by omega) (by omega) r u).1 hd
          split at h
          · cases h
          · injection h with h
            subst h
            refine ⟨?_, by omega, by omega⟩
            rw [itoa_neg u (by omega), e]
    · cases hd : digitsN 9223372036854775807 l with
      | none => rw [hd] at h; cases h
      | some u =>
        rw [hd] at h
        simp only at h
        obtain ⟨e, g⟩ := (digitsN_some _ (by omega) (by omega) l u).1 hd
        injection h with h
        subst h
        exact ⟨by rw [itoa_nonneg u, e], by omega, by omega⟩
  · rintro ⟨rfl, h0, h1⟩
    by_cases hn : v < 0
    · obtain ⟨u, rfl⟩ : ∃ u : Nat, v = -(u : Int) := ⟨v.natAbs, by omega⟩
      rw [itoa_neg u (by omega), if_pos (show (45 :: decDigits u).head? = some 45 from rfl), show (45 :: decDigits u : List UInt8).drop 1 = decDigits u from rfl, (digitsN_some _ (by omega) (by omega) (decDigits u) u).2 ⟨rfl, by omega⟩]
      simp only
      rw [if_neg (by omega)]
    · obtain ⟨u, rfl⟩ : ∃ u : Nat, v = (u : Int) := ⟨v.toNat, by omega⟩
      rw [itoa_nonneg u]
      obtain ⟨c, r, e, g0, g1, _⟩ := decDigits_front u
      rw [if_neg, (digitsN_some _ (by omega) (by omega) (decDigits u) u).2 ⟨rfl, by omega⟩]
      rw [e]
      simp
      intro h
      rw [h] at g0
      exact absurd g0 (by decide)
end Go.Proofs.YtflbplljlkpeiaaDoor
