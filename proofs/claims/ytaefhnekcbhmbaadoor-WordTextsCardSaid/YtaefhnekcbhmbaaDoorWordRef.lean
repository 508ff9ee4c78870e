/- What the document's own answers for the word layer come to, at every number and every text: the text of a number, and what a text is worth. -/
import Derived.Test.YtaefhnekcbhmbaaDoorRows
import Derived.Test.YtaefhnekcbhmbaaDoorWordText
import Derived.Test.YtaefhnekcbhmbaaDoorWordRead
import Derived.Test.YtaefhnekcbhmbaaDoorWordBack
import Derived.Lib.Strings
import Derived.WalkKit
import Derived.WalkSpells
import Derived.WalkLawsBesides
import Derived.Lib.Hide
namespace Go.Proofs.YtaefhnekcbhmbaaDoor
open Go.RowKit

theorem one_byte (wr : World) (k : Int) (c : UInt8) (h : k = (c.toNat : Int)) :
    (convert 49 9 (.slice (some ⟨wr.heap.size, 0, none⟩) 1 1)).run Tryd.prog (wr.alloc (.cells #[.int .u8 k] 5)) = .ok (.string ⟨#[c]⟩) (wr.alloc (.cells #[.int .u8 k] 5)) := by
  subst h
  exact run_convert_bytes_back (P := Tryd.prog) (wr.alloc (.cells #[.int .u8 (c.toNat : Int)] 5)) 49 9 5 ⟨wr.heap.size, 0, none⟩ 1 [c] Tryd.underlying49 Tryd.underlying5 Tryd.underlying9 (fun j hj => by
    have : j = 0 := by simp at hj; omega
    subst this
    go_simp)
theorem byte_ahead (c : UInt8) (l : List UInt8) : (⟨#[c]⟩ : ByteArray) ++ ⟨l.toArray⟩ = ⟨(c :: l).toArray⟩ := by
  apply ByteArray.ext
  simp
theorem string_same {a b : ByteArray} (h : a = b) : Ending.returned (.string a) = Ending.returned (.string b) := by rw [h]

set_option maxHeartbeats 400000 in
theorem great_nat (n : Nat) (h : n < 18446744073709551616) (w : World) :
    Calls Tryd.prog 25 #[.int .u64 n] w fun e w' => e = .returned (.string ⟨(Lib.decDigits n).toArray⟩) ∧ Below w.heap.size w w' := by
  go_enter Tryd.func25, Tryd.ntmps25
  go_wp2
  go_loopw [0, 3] (fun x t wr => ∃ (u : Nat) (l : List UInt8), u ≤ n ∧ Lib.decDigits u ++ l = Lib.decDigits n ∧ x = .int .u64 u ∧ t = .string ⟨l.toArray⟩ ∧ Below w.heap.size w wr) (fun x _ _ => (intOf x).toNat)
  case atStart => exact ⟨n, [], Nat.le_refl _, List.append_nil _, rfl, rfl, Below.refl _ _⟩
  case round =>
    obtain ⟨u, l, hu, hl, rfl, rfl, hb⟩ := hrel
    have hlen : l.length ≤ 20 := by
      have e := congrArg List.length hl
      rw [List.length_append, Lib.decDigits_length n] at e
      have := few_digits 19 n (by omega)
      omega
    by_cases h9 : u < 10
    · have hk := fun c (hc : (48 + (u : Int)) = (UInt8.toNat c : Int)) => one_byte wr (48 + (u : Int)) c hc
      obtain ⟨c, hc, he⟩ : ∃ c : UInt8, 48 + (u : Int) = (c.toNat : Int) ∧ c :: l = Lib.decDigits n :=
        ⟨UInt8.ofNat (48 + u), by rw [digit_nat u h9]; omega, by rw [← hl, decDigits_small u h9]; rfl⟩
      have hk1 := hk c hc
      have He := Lib.hid he
      clear hk hc he hl
      go_wp2
      go_ret
      exact ⟨string_same (by rw [byte_ahead, He.out]), hb.alloc hb.size _⟩
    · obtain ⟨c, hc, he⟩ : ∃ c : UInt8, 48 + (u : Int) % 10 = (c.toNat : Int) ∧ Lib.decDigits (u / 10) ++ c :: l = Lib.decDigits n :=
        ⟨UInt8.ofNat (48 + u % 10), by rw [digit_nat (u % 10) (by omega)]; omega, by rw [← hl, decDigits_big u h9, List.append_assoc]; rfl⟩
      have hk1 := one_byte wr (48 + (u : Int) % 10) c hc
      have He := Lib.hid he
      clear hc he hl
      go_wp2
      go_roundw
      case rel => exact ⟨u / 10, c :: l, by omega, He.out, by go_num, by rw [byte_ahead], hb.alloc hb.size _⟩
      case measure => simp [intOf]; omega

theorem great_is (x : Int) (u : Nat) (hx : x = (u : Int)) (h : u < 18446744073709551616) (w : World) :
    Calls Tryd.prog 25 #[.int .u64 x] w fun e w' => e = .returned (.string ⟨(Lib.decDigits u).toArray⟩) ∧ Below w.heap.size w w' := by
  subst hx; exact great_nat u h w

set_option maxHeartbeats 400000 in
theorem told_any (n : Int) (h0 : -9223372036854775808 ≤ n) (h1 : n ≤ 9223372036854775807) (w : World) :
    Calls Tryd.prog 15 #[.int .i64 n] w fun e w' => e = .returned (.string ⟨(Lib.itoa n).toArray⟩) ∧ Below w.heap.size w w' := by
  by_cases hn : n < 0
  · have Hg := Lib.hid (great_is (IntKind.u64.wrap (-IntKind.u64.wrap n)) n.natAbs (size_neg n h0 hn) (by omega))
    have hl : (Lib.decDigits n.natAbs).length ≤ 20 := by rw [Lib.decDigits_length]; exact few_digits 19 _ (by omega)
    have He := Lib.hid (show Lib.itoa n = 45 :: Lib.decDigits n.natAbs by unfold Lib.itoa; rw [if_pos hn])
    go_enter Tryd.func15, Tryd.ntmps15
    go_wp2_with (go_at_call 25; refine (Hg.out _).mono ?_; rintro e w' ⟨rfl, hb⟩)
    go_ret
    exact ⟨string_same (by rw [byte_ahead, He.out]), hb⟩
  · have Hg := Lib.hid (great_is n n.toNat (by omega) (by omega))
    have He := Lib.hid (show Lib.itoa n = Lib.decDigits n.toNat by unfold Lib.itoa; rw [if_neg hn])
    go_enter Tryd.func15, Tryd.ntmps15
    go_wp2_with (go_at_call 25; refine (Hg.out _).mono ?_; rintro e w' ⟨rfl, hb⟩)
    go_ret
    exact ⟨string_same (by rw [He.out]), hb⟩

/-- The answer of the document's Digits. -/
def dres : Option Nat → Value
  | none => .tuple #[.int .u64 0, .bool false]
  | some u => .tuple #[.int .u64 (u : Int), .bool true]

theorem drop_at (s : ByteArray) (k : Nat) (h : k < s.size) : s.data.toList.drop k = s[k] :: s.data.toList.drop (k + 1) := by
  rw [List.drop_eq_getElem_cons (by rw [Array.length_toList]; exact h)]
  rfl
theorem drop_end (s : ByteArray) (k : Nat) (h : s.size ≤ k) : s.data.toList.drop k = [] :=
  List.drop_eq_nil_of_le (by rw [Array.length_toList]; exact h)
theorem head_at (s : ByteArray) (h : 0 < s.size) : s.data.toList.head? = some s[0] := by
  have e := drop_at s 0 h
  rw [List.drop_zero] at e
  rw [e]; rfl
theorem dres_none {x : Option Nat} (h : x = none) : dres x = .tuple #[.int .u64 0, .bool false] := by rw [h]; rfl
theorem dres_some {x : Option Nat} {u : Nat} (h : x = some u) : dres x = .tuple #[.int .u64 (u : Int), .bool true] := by rw [h]; rfl
theorem returned_same {v v' : Value} (h : v = v') : Ending.returned v = Ending.returned v' := by rw [h]

set_option maxHeartbeats 400000 in
theorem digits_nothing (s : ByteArray) (most : Nat) (hs : s.size = 0) (w : World) :
    Calls Tryd.prog 23 #[.string s, .int .u64 most] w fun e w' => e = .returned (dres (digitsN most s.data.toList)) ∧ w = w' := by
  have HF := Lib.hid (dres_none (x := digitsN most s.data.toList) (by unfold digitsN; rw [size_of, if_pos (Or.inl (by omega))]))
  have hz : (s.size : Int) < 1 := by omega
  clear hs
  go_enter Tryd.func23, Tryd.ntmps23
  go_wp2
  go_ret2
  exact ⟨returned_same (HF.out.symm), rfl⟩
set_option maxHeartbeats 400000 in
theorem digits_much (s : ByteArray) (most : Nat) (hs : 20 < s.size) (w : World) :
    Calls Tryd.prog 23 #[.string s, .int .u64 most] w fun e w' => e = .returned (dres (digitsN most s.data.toList)) ∧ w = w' := by
  have HF := Lib.hid (dres_none (x := digitsN most s.data.toList) (by unfold digitsN; rw [size_of, if_pos (Or.inr (Or.inl hs))]))
  go_enter Tryd.func23, Tryd.ntmps23
  go_wp2
  go_ret2
  exact ⟨returned_same (HF.out.symm), rfl⟩
set_option maxHeartbeats 400000 in
theorem digits_nought (s : ByteArray) (most : Nat) (hs : s.size ≤ 20) (h1 : 1 < s.size) (h0 : s[0] = 48) (w : World) :
    Calls Tryd.prog 23 #[.string s, .int .u64 most] w fun e w' => e = .returned (dres (digitsN most s.data.toList)) ∧ w = w' := by
  have HF := Lib.hid (dres_none (x := digitsN most s.data.toList) (by unfold digitsN; rw [size_of, if_pos (Or.inr (Or.inr ⟨h1, by rw [head_at s (by omega), h0]⟩))]))
  have hb : ((s[0].toNat : Int) == 48) = true := by rw [h0]; rfl
  clear h0
  go_enter Tryd.func23, Tryd.ntmps23
  go_wp2
  go_ret2
  exact ⟨returned_same (HF.out.symm), rfl⟩

theorem byte_le (c : UInt8) : c.toNat ≤ 255 := by have := c.toNat_lt; omega
theorem step_low (most acc : Nat) (c : UInt8) (r : List UInt8) (h : c.toNat < 48 ∨ 57 < c.toNat) : digitsTo most acc (c :: r) = none := by
  rw [digitsTo, if_pos h]
theorem step_over (most acc : Nat) (c : UInt8) (r : List UInt8) (h0 : ¬ (c.toNat < 48 ∨ 57 < c.toNat)) (h : (most - (c.toNat - 48)) / 10 < acc) : digitsTo most acc (c :: r) = none := by
  rw [digitsTo, if_neg h0, if_pos h]
theorem step_on (most acc : Nat) (c : UInt8) (r : List UInt8) (h0 : ¬ (c.toNat < 48 ∨ 57 < c.toNat)) (h : ¬ (most - (c.toNat - 48)) / 10 < acc) : digitsTo most acc (c :: r) = digitsTo most (acc * 10 + (c.toNat - 48)) r := by
  rw [digitsTo, if_neg h0, if_neg h]

set_option maxHeartbeats 1000000 in
theorem digits_loop (s : ByteArray) (most : Nat) (h9 : 9 ≤ most) (hm : most < 18446744073709551616) (hs : s.size ≤ 20) (hN : digitsN most s.data.toList = digitsTo most 0 s.data.toList) (h1 : 1 ≤ s.size)
    (hb : s.size = 1 ∨ ∃ h : 0 < s.size, ((s[0].toNat : Int) == 48) = false) (w : World) :
    Calls Tryd.prog 23 #[.string s, .int .u64 most] w fun e w' => e = .returned (dres (digitsN most s.data.toList)) ∧ w = w' := by
  have HN := Lib.hid hN
  clear hN
  have h2 : s.size = 1 ∧ (s.size : Int) ≤ 1 ∨ (∃ h : 0 < s.size, ((s[0].toNat : Int) == 48) = false) ∧ (1 : Int) < (s.size : Int) := by
    rcases hb with hb | hb
    · exact .inl ⟨hb, by omega⟩
    · by_cases e : s.size = 1
      · exact .inl ⟨e, by omega⟩
      · exact .inr ⟨hb, by omega⟩
  clear hb
  rcases h2 with ⟨_, h2⟩ | ⟨⟨hp, hb⟩, h2⟩
  all_goals
    go_enter Tryd.func23, Tryd.ntmps23
    go_wp2
    go_loop [6, 7] (fun n i => ∃ k acc : Nat, k ≤ s.size ∧ acc ≤ most ∧ Hid (digitsN most s.data.toList = digitsTo most acc (s.data.toList.drop k)) ∧ n = .int .u64 acc ∧ i = .int .i64 k) (fun _ i => s.size - (intOf i).toNat)
    case atStart => exact ⟨0, 0, by omega, by omega, Lib.hid (by rw [HN.out, List.drop_zero]), rfl, rfl⟩
    case round =>
      obtain ⟨k, acc, hk, ha, HR, rfl, rfl⟩ := hrel
      by_cases hlt : k < s.size
      · have hc := byte_le s[k]
        by_cases c0 : s[k].toNat < 48
        · have HF := Lib.hid (dres_none (x := digitsN most s.data.toList) (by rw [HR.out, drop_at s k hlt]; exact step_low _ _ _ _ (Or.inl c0)))
          go_wp2
          go_ret2
          exact ⟨returned_same (HF.out.symm), rfl⟩
        · by_cases c1 : 57 < s[k].toNat
          · have HF := Lib.hid (dres_none (x := digitsN most s.data.toList) (by rw [HR.out, drop_at s k hlt]; exact step_low _ _ _ _ (Or.inr c1)))
            go_wp2
            go_ret2
            exact ⟨returned_same (HF.out.symm), rfl⟩
          · by_cases c2 : (most - (s[k].toNat - 48)) / 10 < acc
            · have HF := Lib.hid (dres_none (x := digitsN most s.data.toList) (by rw [HR.out, drop_at s k hlt]; exact step_over _ _ _ _ (by omega) c2))
              go_wp2
              go_ret2
              exact ⟨returned_same (HF.out.symm), rfl⟩
            · have HF := Lib.hid (show digitsN most s.data.toList = digitsTo most (acc * 10 + (s[k].toNat - 48)) (s.data.toList.drop (k + 1)) by rw [HR.out, drop_at s k hlt]; exact step_on _ _ _ _ (by omega) c2)
              go_wp2
              go_round
              case rel => exact ⟨k + 1, acc * 10 + (s[k].toNat - 48), by omega, by omega, HF, congrArg (Value.int IntKind.u64) (by omega), by go_num⟩
              case measure => simp [intOf]; omega
      · have HF := Lib.hid (dres_some (x := digitsN most s.data.toList) (u := acc) (by rw [HR.out, drop_end s k (by omega)]; rfl))
        go_wp2
        go_ret2
        exact ⟨returned_same (HF.out.symm), rfl⟩

theorem digits_any (s : ByteArray) (most : Nat) (h9 : 9 ≤ most) (hm : most < 18446744073709551616) (w : World) :
    Calls Tryd.prog 23 #[.string s, .int .u64 most] w fun e w' => e = .returned (dres (digitsN most s.data.toList)) ∧ w = w' := by
  by_cases h0 : s.size = 0
  · exact digits_nothing s most h0 w
  by_cases h20 : 20 < s.size
  · exact digits_much s most h20 w
  by_cases h1 : 1 < s.size
  · by_cases hz : s[0] = 48
    · exact digits_nought s most (by omega) h1 hz w
    · have hn : ¬ (s[0].toNat : Int) = 48 := fun e => hz (UInt8.toNat_inj.1 (by show s[0].toNat = 48; omega))
      refine digits_loop s most h9 hm (by omega) ?_ (by omega) (.inr ⟨by omega, beq_eq_false_iff_ne.2 hn⟩) w
      unfold digitsN
      rw [size_of, if_neg]
      rintro (h | h | ⟨_, h⟩)
      · omega
      · omega
      · rw [head_at s (by omega)] at h
        exact hz (Option.some.inj h)
  · refine digits_loop s most h9 hm (by omega) ?_ (by omega) (.inl (by omega)) w
    unfold digitsN
    rw [size_of, if_neg]
    rintro (h | h | ⟨h, _⟩) <;> omega

theorem digits_some (s : ByteArray) (m : Int) (most u : Nat) (hm : m = (most : Int)) (h9 : 9 ≤ most) (hx : most < 18446744073709551616) (h : digitsN most s.data.toList = some u) (w : World) :
    Calls Tryd.prog 23 #[.string s, .int .u64 m] w fun e w' => e = .returned (.tuple #[.int .u64 (u : Int), .bool true]) ∧ w = w' := by
  subst hm
  have e := digits_any s most h9 hx w
  rw [h] at e
  exact e
theorem digits_none (s : ByteArray) (m : Int) (most : Nat) (hm : m = (most : Int)) (h9 : 9 ≤ most) (hx : most < 18446744073709551616) (h : digitsN most s.data.toList = none) (w : World) :
    Calls Tryd.prog 23 #[.string s, .int .u64 m] w fun e w' => e = .returned (.tuple #[.int .u64 0, .bool false]) ∧ w = w' := by
  subst hm
  have e := digits_any s most h9 hx w
  rw [h] at e
  exact e

theorem tail_list (s : ByteArray) : (s.extract 1 s.size).data.toList = s.data.toList.drop 1 := by
  rw [Lib.extract_data, List.take_of_length_le]
  rw [List.length_drop, size_of]; exact Nat.le_refl _
theorem neg_back (u : Nat) (h0 : 1 ≤ u) (h : u ≤ 9223372036854775808) : wrap64 (IntKind.u64.wrap (-(u : Int))) = -(u : Int) := by
  rw [IntKind.wrap_u64]; unfold wrap64; omega

/-- The answer of the document's Parse. -/
def pres : Option Int → Value
  | none => .tuple #[.int .i64 0, .int .i64 13]
  | some v => .tuple #[.int .i64 v, .int .i64 0]
theorem pres_none {x : Option Int} (h : x = none) : pres x = .tuple #[.int .i64 0, .int .i64 13] := by rw [h]; rfl
theorem pres_some {x : Option Int} {v : Int} (h : x = some v) : pres x = .tuple #[.int .i64 v, .int .i64 0] := by rw [h]; rfl

set_option maxHeartbeats 400000 in
theorem asked_minus (s : ByteArray) (hs : 0 < s.size) (h45 : s[0] = 45) (w : World) :
    Calls Tryd.prog 13 #[.string s] w fun e w' => e = .returned (pres (asksN s.data.toList)) ∧ w = w' := by
  have hb : ((s[0].toNat : Int) == 45) = true := by rw [h45]; rfl
  have hA : asksN s.data.toList = (match digitsN 9223372036854775808 (s.data.toList.drop 1) with | some u => (if u = 0 then none else some (-(u : Int))) | none => none) := by
    unfold asksN
    rw [head_at s hs, h45, if_pos rfl]
    rfl
  clear h45
  cases hd : digitsN 9223372036854775808 (s.data.toList.drop 1) with
  | none =>
    rw [hd] at hA
    have HF := Lib.hid (pres_none hA)
    rw [← tail_list] at hd
    have Hd := Lib.hid (fun w => digits_none (s.extract 1 s.size) 9223372036854775808 9223372036854775808 (by omega) (by omega) (by omega) hd w)
    clear hA hd
    go_enter Tryd.func13, Tryd.ntmps13
    go_wp2_with (go_at_call 23; refine (Hd.out _).mono ?_; rintro e w' ⟨rfl, rfl⟩)
    go_ret2
    exact ⟨returned_same (HF.out.symm), rfl⟩
  | some u =>
    rw [hd] at hA
    have hu : u ≤ 9223372036854775808 := ((digitsN_some _ (by omega) (by omega) _ u).1 hd).2
    rw [← tail_list] at hd
    by_cases hz : u = 0
    · subst hz
      have HF := Lib.hid (pres_none hA)
      have Hd := Lib.hid (fun w => digits_some (s.extract 1 s.size) 9223372036854775808 9223372036854775808 0 (by omega) (by omega) (by omega) hd w)
      clear hA hd
      go_enter Tryd.func13, Tryd.ntmps13
      go_wp2_with (go_at_call 23; refine (Hd.out _).mono ?_; rintro e w' ⟨rfl, rfl⟩)
      go_ret2
      exact ⟨returned_same (HF.out.symm), rfl⟩
    · simp only at hA
      rw [if_neg hz] at hA
      have HF := Lib.hid (pres_some hA)
      have Hd := Lib.hid (fun w => digits_some (s.extract 1 s.size) 9223372036854775808 9223372036854775808 u (by omega) (by omega) (by omega) hd w)
      have Hn := Lib.hid (neg_back u (by omega) hu)
      have hq : ((u : Int) == 0) = false := beq_eq_false_iff_ne.2 (by omega)
      clear hA hd
      go_enter Tryd.func13, Tryd.ntmps13
      go_wp2_with (go_at_call 23; refine (Hd.out _).mono ?_; rintro e w' ⟨rfl, rfl⟩)
      go_ret2
      exact ⟨returned_same (by rw [HF.out]; exact congrArg (fun x => Value.tuple #[.int .i64 x, .int .i64 0]) Hn.out), rfl⟩

set_option maxHeartbeats 400000 in
theorem asked_plain (s : ByteArray) (hb : s.size = 0 ∧ (s.size : Int) ≤ 0 ∨ (0 : Int) < s.size ∧ ∃ h : 0 < s.size, ((s[0].toNat : Int) == 45) = false) (hA : asksN s.data.toList = (match digitsN 9223372036854775807 s.data.toList with | some u => some (u : Int) | none => none)) (w : World) :
    Calls Tryd.prog 13 #[.string s] w fun e w' => e = .returned (pres (asksN s.data.toList)) ∧ w = w' := by
  cases hd : digitsN 9223372036854775807 s.data.toList with
  | none =>
    rw [hd] at hA
    have HF := Lib.hid (pres_none hA)
    have Hd := Lib.hid (fun w => digits_none s 9223372036854775807 9223372036854775807 (by omega) (by omega) (by omega) hd w)
    clear hA hd
    rcases hb with ⟨_, hb⟩ | ⟨g, h, hb⟩
    all_goals
      go_enter Tryd.func13, Tryd.ntmps13
      go_wp2_with (go_at_call 23; refine (Hd.out _).mono ?_; rintro e w' ⟨rfl, rfl⟩)
      go_ret2
      exact ⟨returned_same (HF.out.symm), rfl⟩
  | some u =>
    rw [hd] at hA
    have hu : u ≤ 9223372036854775807 := ((digitsN_some _ (by omega) (by omega) _ u).1 hd).2
    have HF := Lib.hid (pres_some hA)
    have Hd := Lib.hid (fun w => digits_some s 9223372036854775807 9223372036854775807 u (by omega) (by omega) (by omega) hd w)
    clear hA hd
    rcases hb with ⟨_, hb⟩ | ⟨g, h, hb⟩
    all_goals
      go_enter Tryd.func13, Tryd.ntmps13
      go_wp2_with (go_at_call 23; refine (Hd.out _).mono ?_; rintro e w' ⟨rfl, rfl⟩)
      go_ret2
      exact ⟨returned_same (HF.out.symm), rfl⟩

theorem asked_any (s : ByteArray) (w : World) :
    Calls Tryd.prog 13 #[.string s] w fun e w' => e = .returned (pres (asksN s.data.toList)) ∧ w = w' := by
  by_cases h0 : 0 < s.size
  · by_cases h45 : s[0] = 45
    · exact asked_minus s h0 h45 w
    · have hn : ¬ (s[0].toNat : Int) = 45 := fun e => h45 (UInt8.toNat_inj.1 (by show s[0].toNat = 45; omega))
      refine asked_plain s (.inr ⟨by omega, h0, beq_eq_false_iff_ne.2 hn⟩) ?_ w
      unfold asksN
      rw [head_at s h0, if_neg (fun e => h45 (Option.some.inj e))]
      rfl
  · refine asked_plain s (.inl ⟨by omega, by omega⟩) ?_ w
    have e : s.data.toList = [] := by
      have := size_of s
      exact List.eq_nil_of_length_eq_zero (by omega)
    unfold asksN
    rw [e, if_neg (by simp)]
    rfl

set_option maxHeartbeats 400000 in
theorem texts_none (n : Int) (s : ByteArray) (h0 : -9223372036854775808 ≤ n) (h1 : n ≤ 9223372036854775807) (h : readN s.data.toList = none) (w : World) (hG : Good w) :
    Calls Tryd.prog 4 #[.int .i64 n, .string s] w fun e w' => e = .returned (.bool true) ∧ Below w.heap.size w w' := by
  have ha := asked_any s
  rw [← readN_asks, h] at ha
  have H1 := Lib.hid (fun w => parse_none s h w)
  have H2 : Hid (∀ w, Calls Tryd.prog 13 #[.string s] w fun e w' => e = .returned (.tuple #[.int .i64 0, .int .i64 13]) ∧ w = w') := Lib.hid ha
  have H3 := Lib.hid (text_any n h0 h1)
  have H4 := Lib.hid (told_any n h0 h1)
  clear h0 h1 h ha
  go_enter Tryd.func4, Tryd.ntmps4
  go_wp2_with fail
  refine (H1.out _ hG).mono ?_; rintro e w1 ⟨rfl, b1⟩
  have G1 := hG.keeps b1
  go_wp2_with fail
  refine (H2.out _).mono ?_; rintro e w' ⟨rfl, rfl⟩
  go_wp2_with fail
  refine (H3.out _ G1).mono ?_; rintro e w2 ⟨rfl, b2⟩
  have G2 := G1.keeps b2
  go_wp2_with fail
  refine (H4.out _).mono ?_; rintro e w3 ⟨rfl, b3⟩
  have G3 := G2.keeps b3
  go_wp2_with fail
  refine (alive_any _ G3).mono ?_; rintro e w4 ⟨rfl, b4⟩
  go_wp2_with fail
  go_ret
  have c2 := b1.trans (b2.mono b1.size)
  have c3 := c2.trans (b3.mono c2.size)
  exact ⟨rfl, c3.trans (b4.mono c3.size)⟩

set_option maxHeartbeats 400000 in
theorem texts_some (n x : Int) (s : ByteArray) (h0 : -9223372036854775808 ≤ n) (h1 : n ≤ 9223372036854775807) (h : readN s.data.toList = some x) (w : World) (hG : Good w) :
    Calls Tryd.prog 4 #[.int .i64 n, .string s] w fun e w' => e = .returned (.bool true) ∧ Below w.heap.size w w' := by
  have ha := asked_any s
  rw [← readN_asks, h] at ha
  have H1 := Lib.hid (fun w => parse_some s x h w)
  have H2 : Hid (∀ w, Calls Tryd.prog 13 #[.string s] w fun e w' => e = .returned (.tuple #[.int .i64 x, .int .i64 0]) ∧ w = w') := Lib.hid ha
  have H3 := Lib.hid (text_any n h0 h1)
  have H4 := Lib.hid (told_any n h0 h1)
  clear h0 h1 h ha
  go_enter Tryd.func4, Tryd.ntmps4
  go_wp2_with fail
  refine (H1.out _ hG).mono ?_; rintro e w1 ⟨rfl, b1⟩
  have G1 := hG.keeps b1
  go_wp2_with fail
  refine (H2.out _).mono ?_; rintro e w' ⟨rfl, rfl⟩
  go_wp2_with fail
  refine (H3.out _ G1).mono ?_; rintro e w2 ⟨rfl, b2⟩
  have G2 := G1.keeps b2
  go_wp2_with fail
  refine (H4.out _).mono ?_; rintro e w3 ⟨rfl, b3⟩
  have G3 := G2.keeps b3
  go_wp2_with fail
  refine (alive_any _ G3).mono ?_; rintro e w4 ⟨rfl, b4⟩
  go_wp2_with fail
  go_ret
  have c2 := b1.trans (b2.mono b1.size)
  have c3 := c2.trans (b3.mono c2.size)
  exact ⟨rfl, c3.trans (b4.mono c3.size)⟩

theorem texts_law (n : Int) (s : ByteArray) (h0 : -9223372036854775808 ≤ n) (h1 : n ≤ 9223372036854775807) (w : World) (hG : Good w) :
    Calls Tryd.prog 4 #[.int .i64 n, .string s] w fun e w' => e = .returned (.bool true) ∧ Below w.heap.size w w' := by
  cases h : readN s.data.toList with
  | none => exact texts_none n s h0 h1 h w hG
  | some x => exact texts_some n x s h0 h1 h w hG
end Go.Proofs.YtaefhnekcbhmbaaDoor
