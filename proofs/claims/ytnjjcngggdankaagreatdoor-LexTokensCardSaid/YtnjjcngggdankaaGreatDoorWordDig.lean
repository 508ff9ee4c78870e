/- What digits are worth by the document's own answer, at every text; for the layers above the word layer. -/
import Derived.Test.YtnjjcngggdankaaGreatDoorRows
import Derived.Test.YtnjjcngggdankaaGreatDoorWordNum
import Derived.WalkKit
import Derived.WalkSpells
import Derived.WalkLawsBesides
import Derived.Lib.Hide
namespace Go.Proofs.YtnjjcngggdankaaGreatDoor
open Go.RowKit

/-- The answer of the document's Digits. -/
def dres : Option Nat → Value
  | none => .tuple #[.int .u64 0, .bool false]
  | some u => .tuple #[.int .u64 (u : Int), .bool true]

theorem drop_at (s : ByteArray) (k : Nat) (h : k < s.size) : s.data.toList.drop k = s[k] :: s.data.toList.drop (k + 1) := by
  rw [List.drop_eq_getElem_cons (by rw [Array.length_toList]; exact h)]
  rfl
theorem drop_end (s : ByteArray) (k : Nat) (h : s.size ≤ k) : s.data.toList.drop k = [] :=
  List.drop_eq_nil_of_le (by rw [Array.length_toList]; exact h)
theorem head_at (s : ByteArray) (h : 0 < s.size) : s.data.toList.head? = some s[0] := by
  have e := drop_at s 0 h
  rw [List.drop_zero] at e
  rw [e]; rfl
theorem dres_none {x : Option Nat} (h : x = none) : dres x = .tuple #[.int .u64 0, .bool false] := by rw [h]; rfl
theorem dres_some {x : Option Nat} {u : Nat} (h : x = some u) : dres x = .tuple #[.int .u64 (u : Int), .bool true] := by rw [h]; rfl
theorem returned_same {v v' : Value} (h : v = v') : Ending.returned v = Ending.returned v' := by rw [h]

set_option maxHeartbeats 400000 in
theorem digits_nothing (s : ByteArray) (most : Nat) (hs : s.size = 0) (w : World) :
    Calls Tryz.prog 115 #[.string s, .int .u64 most] w fun e w' => e = .returned (dres (digitsN most s.data.toList)) ∧ w = w' := by
  have HF := Lib.hid (dres_none (x := digitsN most s.data.toList) (by unfold digitsN; rw [size_of, if_pos (Or.inl (by omega))]))
  have hz : (s.size : Int) < 1 := by omega
  clear hs
  go_enter Tryz.func115, Tryz.ntmps115
  go_wp2
  go_ret2
  exact ⟨returned_same (HF.out.symm), rfl⟩
set_option maxHeartbeats 400000 in
theorem digits_much (s : ByteArray) (most : Nat) (hs : 20 < s.size) (w : World) :
    Calls Tryz.prog 115 #[.string s, .int .u64 most] w fun e w' => e = .returned (dres (digitsN most s.data.toList)) ∧ w = w' := by
  have HF := Lib.hid (dres_none (x := digitsN most s.data.toList) (by unfold digitsN; rw [size_of, if_pos (Or.inr (Or.inl hs))]))
  go_enter Tryz.func115, Tryz.ntmps115
  go_wp2
  go_ret2
  exact ⟨returned_same (HF.out.symm), rfl⟩
set_option maxHeartbeats 400000 in
theorem digits_nought (s : ByteArray) (most : Nat) (hs : s.size ≤ 20) (h1 : 1 < s.size) (h0 : s[0] = 48) (w : World) :
    Calls Tryz.prog 115 #[.string s, .int .u64 most] w fun e w' => e = .returned (dres (digitsN most s.data.toList)) ∧ w = w' := by
  have HF := Lib.hid (dres_none (x := digitsN most s.data.toList) (by unfold digitsN; rw [size_of, if_pos (Or.inr (Or.inr ⟨h1, by rw [head_at s (by omega), h0]⟩))]))
  have hb : ((s[0].toNat : Int) == 48) = true := by rw [h0]; rfl
  clear h0
  go_enter Tryz.func115, Tryz.ntmps115
  go_wp2
  go_ret2
  exact ⟨returned_same (HF.out.symm), rfl⟩

theorem byte_le (c : UInt8) : c.toNat ≤ 255 := by have := c.toNat_lt; omega
theorem step_low (most acc : Nat) (c : UInt8) (r : List UInt8) (h : c.toNat < 48 ∨ 57 < c.toNat) : digitsTo most acc (c :: r) = none := by
  rw [digitsTo, if_pos h]
theorem step_over (most acc : Nat) (c : UInt8) (r : List UInt8) (h0 : ¬ (c.toNat < 48 ∨ 57 < c.toNat)) (h : (most - (c.toNat - 48)) / 10 < acc) : digitsTo most acc (c :: r) = none := by
  rw [digitsTo, if_neg h0, if_pos h]
theorem step_on (most acc : Nat) (c : UInt8) (r : List UInt8) (h0 : ¬ (c.toNat < 48 ∨ 57 < c.toNat)) (h : ¬ (most - (c.toNat - 48)) / 10 < acc) : digitsTo most acc (c :: r) = digitsTo most (acc * 10 + (c.toNat - 48)) r := by
  rw [digitsTo, if_neg h0, if_neg h]

set_option maxHeartbeats 1000000 in
theorem digits_loop (s : ByteArray) (most : Nat) (h9 : 9 ≤ most) (hm : most < 18446744073709551616) (hs : s.size ≤ 20) (hN : digitsN most s.data.toList = digitsTo most 0 s.data.toList) (h1 : 1 ≤ s.size)
    (hb : s.size = 1 ∨ ∃ h : 0 < s.size, ((s[0].toNat : Int) == 48) = false) (w : World) :
    Calls Tryz.prog 115 #[.string s, .int .u64 most] w fun e w' => e = .returned (dres (digitsN most s.data.toList)) ∧ w = w' := by
  have HN := Lib.hid hN
  clear hN
  have h2 : s.size = 1 ∧ (s.size : Int) ≤ 1 ∨ (∃ h : 0 < s.size, ((s[0].toNat : Int) == 48) = false) ∧ (1 : Int) < (s.size : Int) := by
    rcases hb with hb | hb
    · exact .inl ⟨hb, by omega⟩
    · by_cases e : s.size = 1
      · exact .inl ⟨e, by omega⟩
      · exact .inr ⟨hb, by omega⟩
  clear hb
  rcases h2 with ⟨_, h2⟩ | ⟨⟨hp, hb⟩, h2⟩
  all_goals
    go_enter Tryz.func115, Tryz.ntmps115
    go_wp2
    go_loop [6, 7] (fun n i => ∃ k acc : Nat, k ≤ s.size ∧ acc ≤ most ∧ Hid (digitsN most s.data.toList = digitsTo most acc (s.data.toList.drop k)) ∧ n = .int .u64 acc ∧ i = .int .i64 k) (fun _ i => s.size - (intOf i).toNat)
    case atStart => exact ⟨0, 0, by omega, by omega, Lib.hid (by rw [HN.out, List.drop_zero]), rfl, rfl⟩
    case round =>
      obtain ⟨k, acc, hk, ha, HR, rfl, rfl⟩ := hrel
      by_cases hlt : k < s.size
      · have hc := byte_le s[k]
        by_cases c0 : s[k].toNat < 48
        · have HF := Lib.hid (dres_none (x := digitsN most s.data.toList) (by rw [HR.out, drop_at s k hlt]; exact step_low _ _ _ _ (Or.inl c0)))
          go_wp2
          go_ret2
          exact ⟨returned_same (HF.out.symm), rfl⟩
        · by_cases c1 : 57 < s[k].toNat
          · have HF := Lib.hid (dres_none (x := digitsN most s.data.toList) (by rw [HR.out, drop_at s k hlt]; exact step_low _ _ _ _ (Or.inr c1)))
            go_wp2
            go_ret2
            exact ⟨returned_same (HF.out.symm), rfl⟩
          · by_cases c2 : (most - (s[k].toNat - 48)) / 10 < acc
            · have HF := Lib.hid (dres_none (x := digitsN most s.data.toList) (by rw [HR.out, drop_at s k hlt]; exact step_over _ _ _ _ (by omega) c2))
              go_wp2
              go_ret2
              exact ⟨returned_same (HF.out.symm), rfl⟩
            · have HF := Lib.hid (show digitsN most s.data.toList = digitsTo most (acc * 10 + (s[k].toNat - 48)) (s.data.toList.drop (k + 1)) by rw [HR.out, drop_at s k hlt]; exact step_on _ _ _ _ (by omega) c2)
              go_wp2
              go_round
              case rel => exact ⟨k + 1, acc * 10 + (s[k].toNat - 48), by omega, by omega, HF, congrArg (Value.int IntKind.u64) (by omega), by go_num⟩
              case measure => simp [intOf]; omega
      · have HF := Lib.hid (dres_some (x := digitsN most s.data.toList) (u := acc) (by rw [HR.out, drop_end s k (by omega)]; rfl))
        go_wp2
        go_ret2
        exact ⟨returned_same (HF.out.symm), rfl⟩

theorem digits_any (s : ByteArray) (most : Nat) (h9 : 9 ≤ most) (hm : most < 18446744073709551616) (w : World) :
    Calls Tryz.prog 115 #[.string s, .int .u64 most] w fun e w' => e = .returned (dres (digitsN most s.data.toList)) ∧ w = w' := by
  by_cases h0 : s.size = 0
  · exact digits_nothing s most h0 w
  by_cases h20 : 20 < s.size
  · exact digits_much s most h20 w
  by_cases h1 : 1 < s.size
  · by_cases hz : s[0] = 48
    · exact digits_nought s most (by omega) h1 hz w
    · have hn : ¬ (s[0].toNat : Int) = 48 := fun e => hz (UInt8.toNat_inj.1 (by show s[0].toNat = 48; omega))
      refine digits_loop s most h9 hm (by omega) ?_ (by omega) (.inr ⟨by omega, beq_eq_false_iff_ne.2 hn⟩) w
      unfold digitsN
      rw [size_of, if_neg]
      rintro (h | h | ⟨_, h⟩)
      · omega
      · omega
      · rw [head_at s (by omega)] at h
        exact hz (Option.some.inj h)
  · refine digits_loop s most h9 hm (by omega) ?_ (by omega) (.inl (by omega)) w
    unfold digitsN
    rw [size_of, if_neg]
    rintro (h | h | ⟨h, _⟩) <;> omega

theorem digits_some (s : ByteArray) (m : Int) (most u : Nat) (hm : m = (most : Int)) (h9 : 9 ≤ most) (hx : most < 18446744073709551616) (h : digitsN most s.data.toList = some u) (w : World) :
    Calls Tryz.prog 115 #[.string s, .int .u64 m] w fun e w' => e = .returned (.tuple #[.int .u64 (u : Int), .bool true]) ∧ w = w' := by
  subst hm
  have e := digits_any s most h9 hx w
  rw [h] at e
  exact e
theorem digits_none (s : ByteArray) (m : Int) (most : Nat) (hm : m = (most : Int)) (h9 : 9 ≤ most) (hx : most < 18446744073709551616) (h : digitsN most s.data.toList = none) (w : World) :
    Calls Tryz.prog 115 #[.string s, .int .u64 m] w fun e w' => e = .returned (.tuple #[.int .u64 0, .bool false]) ∧ w = w' := by
  subst hm
  have e := digits_any s most h9 hx w
  rw [h] at e
  exact e

end Go.Proofs.YtnjjcngggdankaaGreatDoor
