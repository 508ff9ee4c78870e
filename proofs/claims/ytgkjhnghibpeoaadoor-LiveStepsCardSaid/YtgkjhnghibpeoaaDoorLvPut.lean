/- Sets of registers as rows of words. Nothing here speaks of the program. -/
import Derived.Lib.Strings
import Derived.Below
import Derived.StillTailTactics
import Derived.WalkKit
import Derived.Test.YtgkjhnghibpeoaaDoorRows
import Derived.Test.YtgkjhnghibpeoaaDoorLvBack
import Derived.Laws.Bits64
import Derived.Test.YtgkjhnghibpeoaaDoorIrLeaf
import Derived.Test.YtgkjhnghibpeoaaDoorIrNew
import Derived.Test.YtgkjhnghibpeoaaDoorParseOrder
import Derived.LoopTactic
import Derived.LoopN
import Derived.Deep.LoopGhost
import Derived.WalkSpells
import Derived.WalkLawsBesides
import Derived.Lib.Hide
import Derived.OrdersHeld
import Derived.Deep.RegionHeld
import Derived.Deep.DrawnRows
import Derived.RegionTactic
import Derived.Deep.RegionHeld3
import Derived.IntWalk
import Derived.Deep.QuietTactic
import Derived.BigQuiet
namespace Go.Proofs.YtgkjhnghibpeoaaDoor
open Go Go.Lib

/-- A register is in a set. -/
def hasS (s : List Nat) (r : Nat) : Bool := ((s[r / 64]?).getD 0).testBit (r % 64)
structure SOk (s : List Nat) : Prop where
  len : s.length = 16
  lt : ∀ x ∈ s, x < 18446744073709551616
def emptyS : List Nat := List.replicate 16 0
/-- What is in the one and not in the other. -/
def clr (a b : Nat) : Nat := a ^^^ (a &&& b)
def putS (s : List Nat) (r : Nat) : List Nat := s.set (r / 64) ((s[r / 64]?).getD 0 ||| 2 ^ (r % 64))
def takeS (s : List Nat) (r : Nat) : List Nat := s.set (r / 64) (clr ((s[r / 64]?).getD 0) (2 ^ (r % 64)))
def putI (s : List Nat) (r : Int) : List Nat := if r = -1 then s else putS s r.toNat
def takeI (s : List Nat) (r : Int) : List Nat := if r = -1 then s else takeS s r.toNat
def withS (s t : List Nat) : List Nat := List.zipWith (· ||| ·) s t
def lessS (s t : List Nat) : List Nat := List.zipWith clr s t
def bothS (s t : List Nat) : List Nat := List.zipWith (· &&& ·) s t
theorem clr_bit (a b i : Nat) : (clr a b).testBit i = (a.testBit i && !b.testBit i) := by
  unfold clr
  rw [Nat.testBit_xor, Nat.testBit_and]
  cases a.testBit i <;> cases b.testBit i <;> rfl
theorem lt64_of {x : Nat} (h : ∀ i, 64 ≤ i → x.testBit i = false) : x < 18446744073709551616 := Nat.lt_pow_two_of_testBit (n := 64) x h
theorem bit64 {x i : Nat} (h : x < 18446744073709551616) (hi : 64 ≤ i) : x.testBit i = false := by
  refine Nat.testBit_lt_two_pow (Nat.lt_of_lt_of_le h ?_)
  exact Nat.pow_le_pow_right (n := 2) (by decide) hi
theorem clr_lt {a : Nat} (b : Nat) (h : a < 18446744073709551616) : clr a b < 18446744073709551616 := lt64_of fun i hi => by rw [clr_bit, bit64 h hi]; rfl
theorem or_lt {a b : Nat} (h : a < 18446744073709551616) (k : b < 18446744073709551616) : (a ||| b) < 18446744073709551616 := lt64_of fun i hi => by rw [Nat.testBit_or, bit64 h hi, bit64 k hi]; rfl
theorem and_lt {a : Nat} (b : Nat) (h : a < 18446744073709551616) : (a &&& b) < 18446744073709551616 := lt64_of fun i hi => by rw [Nat.testBit_and, bit64 h hi]; rfl
theorem pow_lt64 (r : Nat) : 2 ^ (r % 64) < 18446744073709551616 := Nat.pow_lt_pow_right (show 1 < 2 by decide) (show r % 64 < 64 from Nat.mod_lt _ (by decide))
theorem SOk.word {s : List Nat} (h : SOk s) (k : Nat) : (s[k]?).getD 0 < 18446744073709551616 := by
  cases e : s[k]? with
  | none => simp
  | some x => exact h.lt x (List.mem_of_getElem? e)
theorem SOk.empty : SOk emptyS := ⟨by decide, by decide⟩
theorem SOk.set {s : List Nat} (h : SOk s) (k : Nat) {x : Nat} (hx : x < 18446744073709551616) : SOk (s.set k x) := ⟨by simpa using h.len, fun y hy => by
  rcases List.mem_or_eq_of_mem_set hy with q | q
  · exact h.lt y q
  · rw [q]; exact hx⟩
theorem SOk.put {s : List Nat} (h : SOk s) (r : Nat) : SOk (putS s r) := h.set _ (or_lt (h.word _) (pow_lt64 r))
theorem SOk.take {s : List Nat} (h : SOk s) (r : Nat) : SOk (takeS s r) := h.set _ (clr_lt _ (h.word _))
theorem SOk.putI {s : List Nat} (h : SOk s) (r : Int) : SOk (putI s r) := by unfold Proofs.YtgkjhnghibpeoaaDoor.putI; split; exact h; exact h.put _
theorem SOk.takeI {s : List Nat} (h : SOk s) (r : Int) : SOk (takeI s r) := by unfold Proofs.YtgkjhnghibpeoaaDoor.takeI; split; exact h; exact h.take _
theorem zip_get {f : Nat → Nat → Nat} (f0 : f 0 0 = 0) {s t : List Nat} (h : s.length = t.length) (k : Nat) : ((List.zipWith f s t)[k]?).getD 0 = f ((s[k]?).getD 0) ((t[k]?).getD 0) := by
  rw [List.getElem?_zipWith]
  by_cases e : k < s.length
  · rw [List.getElem?_eq_getElem e, List.getElem?_eq_getElem (by omega)]; rfl
  · rw [List.getElem?_eq_none (by omega), List.getElem?_eq_none (by omega)]; exact f0.symm
theorem zip_all {f : Nat → Nat → Nat} {s t : List Nat} (hf : ∀ a ∈ s, ∀ b ∈ t, f a b < 18446744073709551616) : ∀ x ∈ List.zipWith f s t, x < 18446744073709551616 := fun x hx => by
  obtain ⟨k, hk⟩ := List.mem_iff_getElem?.1 hx
  rw [List.getElem?_zipWith] at hk
  cases ea : s[k]? with
  | none => rw [ea] at hk; simp at hk
  | some a =>
    cases eb : t[k]? with
    | none => rw [ea, eb] at hk; simp at hk
    | some b =>
      rw [ea, eb] at hk
      simp at hk
      rw [← hk]
      exact hf a (List.mem_of_getElem? ea) b (List.mem_of_getElem? eb)
theorem SOk.with {s t : List Nat} (h : SOk s) (k : SOk t) : SOk (withS s t) := ⟨by simp [withS, h.len, k.len], zip_all fun a ha b hb => or_lt (h.lt a ha) (k.lt b hb)⟩
theorem SOk.less {s t : List Nat} (h : SOk s) (k : SOk t) : SOk (lessS s t) := ⟨by simp [lessS, h.len, k.len], zip_all fun a ha b _ => clr_lt b (h.lt a ha)⟩
theorem SOk.both {s t : List Nat} (h : SOk s) (k : SOk t) : SOk (bothS s t) := ⟨by simp [bothS, h.len, k.len], zip_all fun a ha b _ => and_lt b (h.lt a ha)⟩
theorem has_with {s t : List Nat} (h : SOk s) (k : SOk t) (r : Nat) : hasS (withS s t) r = (hasS s r || hasS t r) := by
  unfold hasS withS; rw [zip_get rfl (by rw [h.len, k.len]), Nat.testBit_or]
theorem has_less {s t : List Nat} (h : SOk s) (k : SOk t) (r : Nat) : hasS (lessS s t) r = (hasS s r && !hasS t r) := by
  unfold hasS lessS; rw [zip_get rfl (by rw [h.len, k.len]), clr_bit]
theorem has_both {s t : List Nat} (h : SOk s) (k : SOk t) (r : Nat) : hasS (bothS s t) r = (hasS s r && hasS t r) := by
  unfold hasS bothS; rw [zip_get rfl (by rw [h.len, k.len]), Nat.testBit_and]
theorem has_empty (r : Nat) : hasS emptyS r = false := by
  unfold hasS emptyS
  rw [List.getElem?_replicate]
  split <;> simp
theorem split64 {x r : Nat} : x = r ↔ x / 64 = r / 64 ∧ x % 64 = r % 64 := by omega
theorem has_put {s : List Nat} (h : SOk s) {r : Nat} (hr : r < 1024) (x : Nat) : hasS (putS s r) x = (hasS s x || decide (x = r)) := by
  unfold hasS putS
  rw [List.getElem?_set]
  by_cases e : r / 64 = x / 64
  · rw [if_pos e, if_pos (by rw [h.len]; omega), e]
    simp only [Option.getD_some]
    rw [Nat.testBit_or, Nat.testBit_two_pow]
    congr 1
    by_cases q : r % 64 = x % 64
    · rw [decide_eq_true q, decide_eq_true (split64.2 ⟨e.symm, q.symm⟩)]
    · rw [decide_eq_false q, decide_eq_false (fun w => q (by rw [w]))]
  · rw [if_neg e, decide_eq_false (fun w => e (by rw [w])), Bool.or_false]
theorem has_take {s : List Nat} (h : SOk s) {r : Nat} (hr : r < 1024) (x : Nat) : hasS (takeS s r) x = (hasS s x && !decide (x = r)) := by
  unfold hasS takeS
  rw [List.getElem?_set]
  by_cases e : r / 64 = x / 64
  · rw [if_pos e, if_pos (by rw [h.len]; omega), e]
    simp only [Option.getD_some]
    rw [clr_bit, Nat.testBit_two_pow]
    congr 2
    by_cases q : r % 64 = x % 64
    · rw [decide_eq_true q, decide_eq_true (split64.2 ⟨e.symm, q.symm⟩)]
    · rw [decide_eq_false q, decide_eq_false (fun w => q (by rw [w]))]
  · rw [if_neg e, decide_eq_false (fun w => e (by rw [w])), Bool.not_false, Bool.and_true]
theorem has_putI {s : List Nat} (h : SOk s) {r : Int} (hr : r = -1 ∨ 0 ≤ r ∧ r < 1024) (x : Nat) : hasS (putI s r) x = (hasS s x || decide ((x : Int) = r)) := by
  unfold putI
  rcases hr with hr | hr
  · rw [if_pos hr, decide_eq_false (by omega), Bool.or_false]
  · rw [if_neg (by omega), has_put h (by omega)]
    congr 1
    exact decide_eq_decide.2 (by omega)
theorem has_takeI {s : List Nat} (h : SOk s) {r : Int} (hr : r = -1 ∨ 0 ≤ r ∧ r < 1024) (x : Nat) : hasS (takeI s r) x = (hasS s x && !decide ((x : Int) = r)) := by
  unfold takeI
  rcases hr with hr | hr
  · rw [if_pos hr, decide_eq_false (by omega), Bool.not_false, Bool.and_true]
  · rw [if_neg (by omega), has_take h (by omega)]
    congr 2
    exact decide_eq_decide.2 (by omega)
theorem has_lt {s : List Nat} (h : SOk s) {r : Nat} (hr : hasS s r = true) : r < 1024 := by
  unfold hasS at hr
  by_cases e : r / 64 < 16
  · omega
  · rw [List.getElem?_eq_none (by rw [h.len]; omega)] at hr
    simp at hr
/-- Alike sets are equal. -/
theorem has_ext {s t : List Nat} (h : SOk s) (k : SOk t) (e : ∀ r, hasS s r = hasS t r) : s = t := by
  refine List.ext_getElem? fun n => ?_
  by_cases hn : n < 16
  · rw [List.getElem?_eq_getElem (by rw [h.len]; exact hn), List.getElem?_eq_getElem (by rw [k.len]; exact hn)]
    congr 1
    refine Nat.eq_of_testBit_eq fun i => ?_
    by_cases hi : i < 64
    · have := e (n * 64 + i)
      unfold hasS at this
      rw [show (n * 64 + i) / 64 = n by omega, show (n * 64 + i) % 64 = i by omega, List.getElem?_eq_getElem (by rw [h.len]; exact hn), List.getElem?_eq_getElem (by rw [k.len]; exact hn)] at this
      exact this
    · rw [bit64 (h.lt _ (List.getElem_mem _)) (by omega), bit64 (k.lt _ (List.getElem_mem _)) (by omega)]
  · rw [List.getElem?_eq_none (by rw [h.len]; omega), List.getElem?_eq_none (by rw [k.len]; omega)]

/-! ### The lowest bit of a word -/
/-- The lowest bit: t with nothing below it. -/
def Low (x t : Nat) : Prop := x.testBit t = true ∧ ∀ i, i < t → x.testBit i = false
theorem low_of {x : Nat} (h : x ≠ 0) : ∃ t, Low x t := by
  obtain ⟨i, hi⟩ := Nat.exists_testBit_of_ne_zero h
  induction i using Nat.strongRecOn with
  | ind i ih =>
    by_cases e : ∃ j, j < i ∧ x.testBit j = true
    · obtain ⟨j, hj, hb⟩ := e; exact ih j hj hb
    · exact ⟨i, hi, fun j hj => by
        cases q : x.testBit j with
        | false => rfl
        | true => exact absurd ⟨j, hj, q⟩ e⟩
theorem Low.form {x t : Nat} (h : Low x t) : ∃ m, x = 2 ^ (t + 1) * m + 2 ^ t := by
  refine ⟨x / 2 ^ (t + 1), ?_⟩
  have h1 : x % 2 ^ (t + 1) = 2 ^ t := by
    refine Nat.eq_of_testBit_eq fun i => ?_
    rw [Nat.testBit_mod_two_pow, Nat.testBit_two_pow]
    by_cases e : i < t + 1
    · by_cases q : t = i
      · subst q; simp [h.1]
      · simp [e, q, h.2 i (by omega)]
    · simp [e]; omega
  have h2 := Nat.div_add_mod x (2 ^ (t + 1))
  rw [h1] at h2
  exact h2.symm
theorem Low.pred {x t : Nat} (h : Low x t) (i : Nat) : (x - 1).testBit i = if i < t then true else if i = t then false else x.testBit i := by
  obtain ⟨m, hm⟩ := h.form
  have hp : 0 < 2 ^ t := Nat.two_pow_pos t
  have e1 : x - 1 = 2 ^ (t + 1) * m + (2 ^ t - 1) := by omega
  have hlt : 2 ^ t < 2 ^ (t + 1) := Nat.pow_lt_pow_right (by decide) (by omega)
  rw [e1, Nat.testBit_two_pow_mul_add m (by omega)]
  rw [hm, Nat.testBit_two_pow_mul_add m hlt, Nat.testBit_two_pow_sub_one]
  by_cases q : i < t
  · simp [q]; omega
  · by_cases q2 : i = t
    · subst q2; simp
    · have : ¬ i < t + 1 := by omega
      simp [q, q2, this]
/-- The lowest bit is struck. -/
theorem Low.strike {x t : Nat} (h : Low x t) (i : Nat) : (x &&& (x - 1)).testBit i = (x.testBit i && decide (i ≠ t)) := by
  rw [Nat.testBit_and, h.pred]
  by_cases q : i < t
  · simp [q, h.2 i q]
  · by_cases q2 : i = t
    · subst q2; simp
    · simp [q, q2]
theorem Low.lone {x t : Nat} (h : Low x t) (hx : x < 18446744073709551616) : x &&& (18446744073709551616 - x) = 2 ^ t := by
  have hx0 : x ≠ 0 := fun e => by rw [e] at h; have := h.1; simp at this
  have e1 : 18446744073709551616 - x = (2 ^ 64 - 1) - (x - 1) := by omega
  refine Nat.eq_of_testBit_eq fun i => ?_
  rw [Nat.testBit_and, Nat.testBit_two_pow, e1]
  by_cases hi : i < 64
  · rw [Nat.sub_sub, show 1 + (x - 1) = (x - 1) + 1 by omega, Nat.testBit_two_pow_sub_succ (by omega), h.pred]
    by_cases q : i < t
    · have : ¬ t = i := by omega
      simp [q, h.2 i q, this]
    · by_cases q2 : i = t
      · subst q2; simp [hi, h.1]
      · have : ¬ t = i := fun w => q2 w.symm
        simp [q, q2, hi, this]
  · rw [bit64 hx (by omega)]
    have : t < 64 := by
      by_cases e : t < 64
      · exact e
      · have := h.1; rw [bit64 hx (by omega)] at this; cases this
    simp; omega
theorem Low.lt {x t : Nat} (h : Low x t) (hx : x < 18446744073709551616) : t < 64 := by
  by_cases e : t < 64
  · exact e
  · have := h.1; rw [bit64 hx (by omega)] at this; cases this

/-! ### The registers of a set, rising -/
def listS (s : List Nat) : List Nat := (List.range 1024).filter (hasS s)
theorem listS_mem {s : List Nat} (h : SOk s) {r : Nat} : r ∈ listS s ↔ hasS s r = true := by
  unfold listS
  rw [List.mem_filter, List.mem_range]
  exact ⟨fun q => q.2, fun q => ⟨has_lt h q, q⟩⟩
theorem range_skip (p : Nat → Bool) : ∀ (d a : Nat), (∀ i, a ≤ i → i < a + d → p i = false) → (List.range (a + d)).filter p = (List.range a).filter p := by
  intro d
  induction d with
  | zero => intro a _; rfl
  | succ d ih =>
    intro a h
    rw [show a + (d + 1) = (a + d) + 1 by omega, List.range_succ, List.filter_append, ih a (fun i h1 h2 => h i h1 (by omega))]
    simp [h (a + d) (by omega) (by omega)]
/-- What has been told of a set: its registers below k * 64 + j; w is the word, less what has been told. -/
structure Told (s : List Nat) (k : Nat) (w j : Nat) (l : List Nat) : Prop where
  le : j ≤ 64
  lt : w < 18446744073709551616
  bits : ∀ i, w.testBit i = (((s[k]?).getD 0).testBit i && decide (j ≤ i))
  told : l = (List.range (k * 64 + j)).filter (hasS s)
theorem has_at (s : List Nat) (k i : Nat) (hi : i < 64) : hasS s (k * 64 + i) = ((s[k]?).getD 0).testBit i := by
  unfold hasS; rw [show (k * 64 + i) / 64 = k by omega, show (k * 64 + i) % 64 = i by omega]
theorem Told.next {s : List Nat} {k w j t : Nat} {l : List Nat} (h : Told s k w j l) (ht : Low w t) : Told s k (w &&& (w - 1)) (t + 1) (l ++ [k * 64 + t]) := by
  have h64 := ht.lt h.lt
  have h1 := ht.1
  rw [h.bits] at h1
  simp only [Bool.and_eq_true, decide_eq_true_eq] at h1
  refine ⟨by omega, and_lt _ h.lt, fun i => ?_, ?_⟩
  · rw [ht.strike, h.bits]
    by_cases q : i < t
    · have q2 := ht.2 i q
      rw [h.bits] at q2
      rw [q2]
      simp; omega
    · by_cases q2 : i = t
      · subst q2; simp
      · have : j ≤ i := by omega
        have q3 : t + 1 ≤ i := by omega
        simp [this, q2, q3]
  · rw [show k * 64 + (t + 1) = (k * 64 + t) + 1 by omega, List.range_succ, List.filter_append, h.told]
    congr 1
    · have e : k * 64 + t = (k * 64 + j) + (t - j) := by omega
      rw [e]
      refine (range_skip _ _ _ fun i hi1 hi2 => ?_).symm
      have e2 : i = k * 64 + (i - k * 64) := by omega
      rw [e2, has_at s k _ (by omega)]
      have q2 := ht.2 (i - k * 64) (by omega)
      rw [h.bits] at q2
      simpa [show j ≤ i - k * 64 by omega] using q2
    · simp [has_at s k t h64, h1.1]
theorem Told.end' {s : List Nat} {k j : Nat} {l : List Nat} (h : Told s k 0 j l) : l = (List.range ((k + 1) * 64)).filter (hasS s) := by
  rw [h.told, show (k + 1) * 64 = (k * 64 + j) + (64 - j) by have := h.le; omega]
  refine (range_skip _ _ _ fun i hi1 hi2 => ?_).symm
  have hj := h.le
  have e2 : i = k * 64 + (i - k * 64) := by omega
  rw [e2, has_at s k _ (by omega)]
  have q2 := h.bits (i - k * 64)
  rw [Nat.zero_testBit] at q2
  simpa [show j ≤ i - k * 64 by omega] using q2.symm
theorem Told.start {s : List Nat} (h : SOk s) (k : Nat) {l : List Nat} (hl : l = (List.range (k * 64)).filter (hasS s)) : Told s k ((s[k]?).getD 0) 0 l :=
  ⟨by omega, h.word k, fun i => by simp, by simpa using hl⟩
/-- The table by which the lowest bit is found. -/
def lowTab : List Nat := [0, 1, 56, 2, 57, 49, 28, 3, 61, 58, 42, 50, 38, 29, 17, 4, 62, 47, 59, 36, 45, 43, 51, 22, 53, 39, 33, 30, 24, 18, 12, 5, 63, 55, 48, 27, 60, 41, 37, 16, 46, 35, 44, 21, 52, 32, 23, 11, 54, 26, 40, 15, 34, 20, 31, 10, 25, 14, 19, 9, 13, 8, 7, 6]
theorem lowTab_at : ∀ t : Fin 64, lowTab[(2 ^ t.val * 285870213051353865 % 18446744073709551616) / 288230376151711744]? = some t.val := by decide +kernel
end Go.Proofs.YtgkjhnghibpeoaaDoor
namespace Go.Proofs.YtgkjhnghibpeoaaDoor
open Go Go.RowKit

theorem still_tail {P : Program} {id : Nat} {Q : Exit → Act → World → Prop} {a : Act} {w : World} {l : List Oper} (n : Nat) (hm : P.follows .mixedOrders = true) (hB : Region.lexTailB .any l.toArray n = true)
    (h : ∀ w2 : World, w2 = w.drew → wpStill P l.toArray w2 (fun a' => wpList P l.toArray Q (l.drop n) a' w2) (l.take n) a) : (Code.region id l.toArray true).wp P Q a w :=
  wp_region_still_tail n hm hB (h _ rfl)
theorem dc {w w2 : World} (h : w2 = w.drew) {p : Addr} {v : Value} (hc : w.cell? p = some v) : w2.cell? p = some v := by rw [h]; exact hc
theorem df {w w2 : World} (h : w2 = w.drew) {p : Addr} {b : Bool} (hc : w.frozen? p = b) : w2.frozen? p = b := by rw [h]; exact hc
theorem dz {w w2 : World} (h : w2 = w.drew) : w2.heap.size = w.heap.size := by rw [h]; rfl
theorem db {w w2 : World} (h : w2 = w.drew) : Below w.heap.size w w2 := by rw [h]; exact ⟨rfl, rfl, rfl, Nat.le_refl _, fun _ _ => rfl⟩
end Go.Proofs.YtgkjhnghibpeoaaDoor
namespace Go.Proofs.YtgkjhnghibpeoaaDoor
open Go.RowKit
set_option maxRecDepth 1000000
attribute [local go_sem ↓] bld_eq bls_eq


theorem quo64 (t : Nat) (h : t < 4611686018427387904) : IntKind.wrap .i64 ((t : Int) / 64) = ((t / 64 : Nat) : Int) := by
  rw [IntWalk.i64_in _ (by omega)]
  omega
theorem rem64 (t : Nat) : (t : Int).tmod 64 = ((t % 64 : Nat) : Int) := by
  rw [Int.tmod_eq_emod_of_nonneg (by omega)]
  omega
theorem pow64 {m : Nat} (h : m < 64) : 2 ^ m < 18446744073709551616 := Nat.pow_lt_pow_right (show 1 < 2 by decide) (show m < 64 from h)
theorem shl64 (m : Nat) (h : m < 64) : IntKind.wrap .u64 (2 ^ m) = ((2 ^ m : Nat) : Int) := by
  rw [IntKind.wrap_u64]
  have h1 := pow64 h
  have h2 : ((2 ^ m : Nat) : Int) = (2 : Int) ^ m := by simp
  rw [← h2]
  clear h2
  generalize (2 : Nat) ^ m = P at h1 ⊢
  omega
theorem ofInt64 {a : Nat} (ha : a < 18446744073709551616) : (BitVec.ofInt 64 (a : Int)).toNat = a := by
  rw [BitVec.ofInt_natCast, BitVec.toNat_ofNat]; exact Nat.mod_eq_of_lt ha
theorem bits64_or {a b : Nat} (ha : a < 18446744073709551616) (hb : b < 18446744073709551616) : bits .or .u64 (a : Int) (b : Int) = ((a ||| b : Nat) : Int) := by
  have hx := or_lt ha hb
  show IntKind.u64.wrap ((BitVec.ofInt 64 (a : Int) ||| BitVec.ofInt 64 (b : Int)).toNat : Int) = _
  rw [BitVec.toNat_or, ofInt64 ha, ofInt64 hb, IntKind.wrap_u64]
  omega
theorem bits64_and {a b : Nat} (ha : a < 18446744073709551616) (hb : b < 18446744073709551616) : bits .and .u64 (a : Int) (b : Int) = ((a &&& b : Nat) : Int) := by
  have hx := and_lt b ha
  show IntKind.u64.wrap ((BitVec.ofInt 64 (a : Int) &&& BitVec.ofInt 64 (b : Int)).toNat : Int) = _
  rw [BitVec.toNat_and, ofInt64 ha, ofInt64 hb, IntKind.wrap_u64]
  omega
theorem bits64_clr {a b : Nat} (ha : a < 18446744073709551616) (hb : b < 18446744073709551616) : bits .andNot .u64 (a : Int) (b : Int) = ((clr a b : Nat) : Int) := by
  have hx := clr_lt b ha
  show IntKind.u64.wrap ((BitVec.ofInt 64 (a : Int) &&& ~~~ BitVec.ofInt 64 (b : Int)).toNat : Int) = _
  have e : (BitVec.ofInt 64 (a : Int) &&& ~~~ BitVec.ofInt 64 (b : Int)).toNat = clr a b := by
    refine Nat.eq_of_testBit_eq fun i => ?_
    rw [clr_bit, ← BitVec.getLsbD, BitVec.getLsbD_and, BitVec.getLsbD_not]
    have h1 : (BitVec.ofInt 64 (a : Int)).getLsbD i = a.testBit i := by rw [BitVec.getLsbD, ofInt64 ha]
    have h2 : (BitVec.ofInt 64 (b : Int)).getLsbD i = b.testBit i := by rw [BitVec.getLsbD, ofInt64 hb]
    rw [h1, h2]
    by_cases hi : i < 64
    · simp [hi]
    · rw [bit64 ha (by omega)]; rfl
  rw [e, IntKind.wrap_u64]
  omega
def putAt (L : List Nat) (o : Nat) (r : Int) : List Nat := if r = -1 then L else L.set (o + r.toNat / 64) ((L[o + r.toNat / 64]?).getD 0 ||| 2 ^ (r.toNat % 64))
def takeAt (L : List Nat) (o : Nat) (r : Int) : List Nat := if r = -1 then L else L.set (o + r.toNat / 64) (clr ((L[o + r.toNat / 64]?).getD 0) (2 ^ (r.toNat % 64)))
theorem putAt_own (s : List Nat) (r : Int) : putAt s 0 r = putI s r := by unfold putAt putI putS; simp only [Nat.zero_add]
theorem takeAt_own (s : List Nat) (r : Int) : takeAt s 0 r = takeI s r := by unfold takeAt takeI takeS; simp only [Nat.zero_add]
theorem reg16 {r : Int} (hr : r = -1 ∨ 0 ≤ r ∧ r < 1024) (h : ¬ r = -1) : r.toNat / 64 < 16 := by omega
theorem putAt_left {a c : List Nat} (ha : a.length = 16) {r : Int} (hr : r = -1 ∨ 0 ≤ r ∧ r < 1024) : putAt (a ++ c) 0 r = putI a r ++ c := by
  unfold putAt putI putS
  simp only [Nat.zero_add]
  split
  · rfl
  · rename_i h
    have := reg16 hr h
    rw [List.getElem?_append_left (by omega), List.set_append_left _ _ (by omega)]
theorem takeAt_left {a c : List Nat} (ha : a.length = 16) {r : Int} (hr : r = -1 ∨ 0 ≤ r ∧ r < 1024) : takeAt (a ++ c) 0 r = takeI a r ++ c := by
  unfold takeAt takeI takeS
  simp only [Nat.zero_add]
  split
  · rfl
  · rename_i h
    have := reg16 hr h
    rw [List.getElem?_append_left (by omega), List.set_append_left _ _ (by omega)]
theorem putAt_right {a c : List Nat} (ha : a.length = 16) (r : Int) : putAt (a ++ c) 16 r = a ++ putI c r := by
  unfold putAt putI putS
  split
  · rfl
  · rw [List.getElem?_append_right (by omega), List.set_append_right _ _ (by omega), ha, Nat.add_sub_cancel_left]

set_option maxHeartbeats 8000000 in
theorem lput_any (s o : Nat) (L : List Nat) (T : TypeId) (r : Int) (w : World) (h : w.heap[s]? = some (.cells (u64A L) T (0, 0))) (hr : r = -1 ∨ 0 ≤ r ∧ r < 1024) (ho : o + 16 ≤ L.length) (hL : ∀ x ∈ L, x < 18446744073709551616) :
    Calls Tryd.prog 35 #[.pointer (some ⟨s, o, none⟩), .int .i64 r] w fun e w' => e = .returned (.tuple #[]) ∧ w'.heap[s]? = some (.cells (u64A (putAt L o r)) T (0, 0)) ∧ Wr (fun b => b = s) w w' := by
  by_cases hr1 : r = -1
  · subst hr1
    have e1 : putAt L o (-1) = L := by unfold putAt; rw [if_pos rfl]
    rw [e1]
    have HH := Lib.hid h
    clear h hL e1
    go_enter Tryd.func35, Tryd.ntmps35
    go_wp2_with fail
    go_end0
    exact ⟨rfl, HH.out, Wr.refl _ w⟩
  obtain ⟨t, rfl⟩ : ∃ t : Nat, r = (t : Int) := ⟨r.toNat, by omega⟩
  have ht : t < 1024 := by omega
  obtain ⟨x, hx⟩ : ∃ x, L[o + t / 64]? = some x := ⟨_, List.getElem?_eq_getElem (by omega)⟩
  have hx2 := hL x (List.mem_of_getElem? hx)
  have c0 := u64A_at h hx
  have f0 := Lib.frozen_of_heap h (o + t / 64)
  obtain ⟨Y, hY⟩ : ∃ Y : Nat, Y = x ||| 2 ^ (t % 64) := ⟨_, rfl⟩
  have hop : bits .or .u64 (x : Int) ((2 ^ (t % 64) : Nat) : Int) = (Y : Int) := by rw [hY]; exact bits64_or hx2 (pow_lt64 t)
  have HH := Lib.hid h
  have e0 : putAt L o (t : Int) = L.set (o + t / 64) Y := by unfold putAt; rw [if_neg hr1, Int.toNat_natCast, hx, hY]; rfl
  rw [e0]
  have d1 : ((t : Int) != -1) = true := by simp
  obtain ⟨q, hq⟩ : ∃ q, q = t / 64 := ⟨_, rfl⟩
  obtain ⟨m, hm⟩ : ∃ m, m = t % 64 := ⟨_, rfl⟩
  have hm64 : m < 64 := by omega
  have hq16 : (q : Int) < 16 := by omega
  have e1 := quo64 t (by omega)
  have e2 := rem64 t
  have e3 := shl64 m hm64
  rw [← hq] at c0 f0 e1 ⊢
  rw [← hm] at e2 hop
  obtain ⟨P, hP⟩ : ∃ P : Nat, P = 2 ^ m := ⟨_, rfl⟩
  rw [← hP] at e3 hop
  have hsz : s < w.heap.size := (Array.getElem?_eq_some_iff.1 h).1
  clear hY hq hm hx h hP e0 hr hr1 hL
  go_enter Tryd.func35, Tryd.ntmps35
  go_wp2_with fail
  refine still_tail 12 (by kernel_rfl) (by kernel_rfl) (fun w2 hw2 => ?_)
  have c0 := dc hw2 (w := w) c0
  have f0 := df hw2 (w := w) f0
  have HW := Lib.hid (show w2.heap[s]? = w.heap[s]? ∧ Wr (fun b => b = s) w w2 from by rw [hw2]; exact ⟨rfl, (Wr.refl _ w).drew⟩)
  clear hw2
  simp only [List.take_succ_cons, List.take_zero, List.drop_succ_cons, List.drop_zero]
  repeat still_step
  try refine wpStill_nil ?_
  go_wp2_with fail
  go_end0
  exact ⟨rfl, u64A_set (HW.out.1.trans HH.out) (o + q) Y, HW.out.2.trans (Wr.set (S := fun b => b = s) w2 rfl _)⟩

set_option maxHeartbeats 8000000 in
theorem ltake_any (s o : Nat) (L : List Nat) (T : TypeId) (r : Int) (w : World) (h : w.heap[s]? = some (.cells (u64A L) T (0, 0))) (hr : r = -1 ∨ 0 ≤ r ∧ r < 1024) (ho : o + 16 ≤ L.length) (hL : ∀ x ∈ L, x < 18446744073709551616) :
    Calls Tryd.prog 40 #[.pointer (some ⟨s, o, none⟩), .int .i64 r] w fun e w' => e = .returned (.tuple #[]) ∧ w'.heap[s]? = some (.cells (u64A (takeAt L o r)) T (0, 0)) ∧ Wr (fun b => b = s) w w' := by
  by_cases hr1 : r = -1
  · subst hr1
    have e1 : takeAt L o (-1) = L := by unfold takeAt; rw [if_pos rfl]
    rw [e1]
    have HH := Lib.hid h
    clear h hL e1
    go_enter Tryd.func40, Tryd.ntmps40
    go_wp2_with fail
    go_end0
    exact ⟨rfl, HH.out, Wr.refl _ w⟩
  obtain ⟨t, rfl⟩ : ∃ t : Nat, r = (t : Int) := ⟨r.toNat, by omega⟩
  have ht : t < 1024 := by omega
  obtain ⟨x, hx⟩ : ∃ x, L[o + t / 64]? = some x := ⟨_, List.getElem?_eq_getElem (by omega)⟩
  have hx2 := hL x (List.mem_of_getElem? hx)
  have c0 := u64A_at h hx
  have f0 := Lib.frozen_of_heap h (o + t / 64)
  obtain ⟨Y, hY⟩ : ∃ Y : Nat, Y = clr x (2 ^ (t % 64)) := ⟨_, rfl⟩
  have hop : bits .andNot .u64 (x : Int) ((2 ^ (t % 64) : Nat) : Int) = (Y : Int) := by rw [hY]; exact bits64_clr hx2 (pow_lt64 t)
  have HH := Lib.hid h
  have e0 : takeAt L o (t : Int) = L.set (o + t / 64) Y := by unfold takeAt; rw [if_neg hr1, Int.toNat_natCast, hx, hY]; rfl
  rw [e0]
  have d1 : ((t : Int) != -1) = true := by simp
  obtain ⟨q, hq⟩ : ∃ q, q = t / 64 := ⟨_, rfl⟩
  obtain ⟨m, hm⟩ : ∃ m, m = t % 64 := ⟨_, rfl⟩
  have hm64 : m < 64 := by omega
  have hq16 : (q : Int) < 16 := by omega
  have e1 := quo64 t (by omega)
  have e2 := rem64 t
  have e3 := shl64 m hm64
  rw [← hq] at c0 f0 e1 ⊢
  rw [← hm] at e2 hop
  obtain ⟨P, hP⟩ : ∃ P : Nat, P = 2 ^ m := ⟨_, rfl⟩
  rw [← hP] at e3 hop
  have hsz : s < w.heap.size := (Array.getElem?_eq_some_iff.1 h).1
  clear hY hq hm hx h hP e0 hr hr1 hL
  go_enter Tryd.func40, Tryd.ntmps40
  go_wp2_with fail
  refine still_tail 12 (by kernel_rfl) (by kernel_rfl) (fun w2 hw2 => ?_)
  have c0 := dc hw2 (w := w) c0
  have f0 := df hw2 (w := w) f0
  have HW := Lib.hid (show w2.heap[s]? = w.heap[s]? ∧ Wr (fun b => b = s) w w2 from by rw [hw2]; exact ⟨rfl, (Wr.refl _ w).drew⟩)
  clear hw2
  simp only [List.take_succ_cons, List.take_zero, List.drop_succ_cons, List.drop_zero]
  repeat still_step
  try refine wpStill_nil ?_
  go_wp2_with fail
  go_end0
  exact ⟨rfl, u64A_set (HW.out.1.trans HH.out) (o + q) Y, HW.out.2.trans (Wr.set (S := fun b => b = s) w2 rfl _)⟩
end Go.Proofs.YtgkjhnghibpeoaaDoor
