/- What the lex layer's small functions answer, at every input: which bytes are letters, digits, of names, blanks; which texts are words; how many bytes a sign has; how far bytes of a kind go. Each leaves the world as it was. -/
import Derived.Test.YtnjjcngggdankaaGreatDoorRows
import Derived.Test.YtnjjcngggdankaaGreatDoorLexFeed
import Derived.Test.YtnjjcngggdankaaGreatDoorWordNum
import Derived.Lib.Strings
import Derived.WalkKit
import Derived.WalkSpells
import Derived.WalkLawsBesides
import Derived.Lib.Hide
namespace Go.Proofs.YtnjjcngggdankaaGreatDoor
open Go.RowKit

theorem b_yes {a b : Int} (h : a = b) : (a == b) = true := beq_iff_eq.2 h
theorem b_no {a b : Int} (h : ¬ a = b) : (a == b) = false := beq_eq_false_iff_ne.2 h
theorem ret_bool {a b : Bool} (h : a = b) : Ending.returned (.bool a) = Ending.returned (.bool b) := by rw [h]
theorem ret_int {k : IntKind} {a b : Int} (h : a = b) : Ending.returned (.int k a) = Ending.returned (.int k b) := by rw [h]

set_option maxHeartbeats 400000 in
theorem letter_any (c : UInt8) (w : World) :
    Calls Tryz.prog 103 #[.int .u8 (c.toNat : Int)] w fun e w' => e = .returned (.bool (isLetter c)) ∧ w = w' := by
  by_cases h0 : 97 ≤ c.toNat
  · by_cases h1 : c.toNat ≤ 122
    · have HF := Lib.hid (show isLetter c = true by unfold isLetter; simp [h0, h1])
      have dd : (decide ((c.toNat : Int) ≤ 122)) = true := decide_eq_true (by omega)
      go_enter Tryz.func103, Tryz.ntmps103
      go_wp2
      go_ret
      exact ⟨ret_bool HF.out.symm, rfl⟩
    · have HF := Lib.hid (show isLetter c = false by unfold isLetter; simp [h1])
      have dd : (decide ((c.toNat : Int) ≤ 122)) = false := decide_eq_false (by omega)
      go_enter Tryz.func103, Tryz.ntmps103
      go_wp2
      go_ret
      exact ⟨ret_bool HF.out.symm, rfl⟩
  · have HF := Lib.hid (show isLetter c = false by unfold isLetter; simp [h0])
    go_enter Tryz.func103, Tryz.ntmps103
    go_wp2
    go_ret
    exact ⟨ret_bool HF.out.symm, rfl⟩

set_option maxHeartbeats 400000 in
theorem digit_any (c : UInt8) (w : World) :
    Calls Tryz.prog 107 #[.int .u8 (c.toNat : Int)] w fun e w' => e = .returned (.bool (isDigit c)) ∧ w = w' := by
  by_cases h0 : 48 ≤ c.toNat
  · by_cases h1 : c.toNat ≤ 57
    · have HF := Lib.hid (show isDigit c = true by unfold isDigit; simp [h0, h1])
      have dd : (decide ((c.toNat : Int) ≤ 57)) = true := decide_eq_true (by omega)
      go_enter Tryz.func107, Tryz.ntmps107
      go_wp2
      go_ret
      exact ⟨ret_bool HF.out.symm, rfl⟩
    · have HF := Lib.hid (show isDigit c = false by unfold isDigit; simp [h1])
      have dd : (decide ((c.toNat : Int) ≤ 57)) = false := decide_eq_false (by omega)
      go_enter Tryz.func107, Tryz.ntmps107
      go_wp2
      go_ret
      exact ⟨ret_bool HF.out.symm, rfl⟩
  · have HF := Lib.hid (show isDigit c = false by unfold isDigit; simp [h0])
    go_enter Tryz.func107, Tryz.ntmps107
    go_wp2
    go_ret
    exact ⟨ret_bool HF.out.symm, rfl⟩

set_option maxHeartbeats 400000 in
theorem blank_any (c : UInt8) (w : World) :
    Calls Tryz.prog 97 #[.int .u8 (c.toNat : Int)] w fun e w' => e = .returned (.bool (isBlank c)) ∧ w = w' := by
  by_cases h0 : c.toNat = 32
  · have HF := Lib.hid (show isBlank c = true by unfold isBlank; simp [h0])
    have b0 : ((c.toNat : Int) == 32) = true := b_yes (by omega)
    clear h0
    go_enter Tryz.func97, Tryz.ntmps97
    go_wp2
    go_ret
    exact ⟨ret_bool HF.out.symm, rfl⟩
  have b0 : ((c.toNat : Int) == 32) = false := b_no (by omega)
  by_cases h1 : c.toNat = 9
  · have HF := Lib.hid (show isBlank c = true by unfold isBlank; simp [h1])
    have b1 : ((c.toNat : Int) == 9) = true := b_yes (by omega)
    clear h0 h1
    go_enter Tryz.func97, Tryz.ntmps97
    go_wp2
    go_ret
    exact ⟨ret_bool HF.out.symm, rfl⟩
  have b1 : ((c.toNat : Int) == 9) = false := b_no (by omega)
  by_cases h2 : c.toNat = 10
  · have HF := Lib.hid (show isBlank c = true by unfold isBlank; simp [h2])
    have b2 : ((c.toNat : Int) == 10) = true := b_yes (by omega)
    clear h0 h1 h2
    go_enter Tryz.func97, Tryz.ntmps97
    go_wp2
    go_ret
    exact ⟨ret_bool HF.out.symm, rfl⟩
  have b2 : ((c.toNat : Int) == 10) = false := b_no (by omega)
  by_cases h3 : c.toNat = 13
  · have HF := Lib.hid (show isBlank c = true by unfold isBlank; simp [h3])
    have b3 : ((c.toNat : Int) == 13) = true := b_yes (by omega)
    clear h0 h1 h2 h3
    go_enter Tryz.func97, Tryz.ntmps97
    go_wp2
    go_ret
    exact ⟨ret_bool HF.out.symm, rfl⟩
  have b3 : ((c.toNat : Int) == 13) = false := b_no (by omega)
  have HF := Lib.hid (show isBlank c = false by unfold isBlank; simp [h0, h1, h2, h3])
  clear h0 h1 h2 h3
  go_enter Tryz.func97, Tryz.ntmps97
  go_wp2
  go_ret
  exact ⟨ret_bool HF.out.symm, rfl⟩

set_option maxHeartbeats 400000 in
theorem in_any (c : UInt8) (w : World) :
    Calls Tryz.prog 106 #[.int .u8 (c.toNat : Int)] w fun e w' => e = .returned (.bool (isIn c)) ∧ w = w' := by
  have h1 := letter_any c
  have h2 := digit_any c
  cases hl : isLetter c with
  | true =>
    rw [hl] at h1
    have HF := Lib.hid (show isIn c = true by unfold isIn; simp [hl])
    have H1 := Lib.hid h1
    clear h1 h2 hl
    go_enter Tryz.func106, Tryz.ntmps106
    go_wp2_with (go_at_call 103; refine (H1.out _).mono ?_; rintro e w' ⟨rfl, rfl⟩)
    go_ret
    exact ⟨ret_bool HF.out.symm, rfl⟩
  | false =>
    cases hd : isDigit c with
    | true =>
      rw [hl] at h1
      rw [hd] at h2
      have HF := Lib.hid (show isIn c = true by unfold isIn; simp [hd])
      have H1 := Lib.hid h1
      have H2 := Lib.hid h2
      clear h1 h2 hl hd
      go_enter Tryz.func106, Tryz.ntmps106
      go_wp2_with (first | (go_at_call 103; refine (H1.out _).mono ?_; rintro e w' ⟨rfl, rfl⟩) | (go_at_call 107; refine (H2.out _).mono ?_; rintro e w' ⟨rfl, rfl⟩))
      go_ret
      exact ⟨ret_bool HF.out.symm, rfl⟩
    | false =>
      rw [hl] at h1
      rw [hd] at h2
      by_cases h95 : c.toNat = 95
      · have HF := Lib.hid (show isIn c = true by unfold isIn; simp [h95])
        have b0 : ((c.toNat : Int) == 95) = true := b_yes (by omega)
        have H1 := Lib.hid h1
        have H2 := Lib.hid h2
        clear h1 h2 hl hd h95
        go_enter Tryz.func106, Tryz.ntmps106
        go_wp2_with (first | (go_at_call 103; refine (H1.out _).mono ?_; rintro e w' ⟨rfl, rfl⟩) | (go_at_call 107; refine (H2.out _).mono ?_; rintro e w' ⟨rfl, rfl⟩))
        go_ret
        exact ⟨ret_bool HF.out.symm, rfl⟩
      · have HF := Lib.hid (show isIn c = false by unfold isIn; simp [hl, hd, h95])
        have b0 : ((c.toNat : Int) == 95) = false := b_no (by omega)
        have H1 := Lib.hid h1
        have H2 := Lib.hid h2
        clear h1 h2 hl hd h95
        go_enter Tryz.func106, Tryz.ntmps106
        go_wp2_with (first | (go_at_call 103; refine (H1.out _).mono ?_; rintro e w' ⟨rfl, rfl⟩) | (go_at_call 107; refine (H2.out _).mono ?_; rintro e w' ⟨rfl, rfl⟩))
        go_ret
        exact ⟨ret_bool HF.out.symm, rfl⟩

theorem left_at (s : ByteArray) (k : Nat) (h : k < s.size) : s.data.toList.drop k = s[k] :: s.data.toList.drop (k + 1) := by
  rw [List.drop_eq_getElem_cons (by rw [Array.length_toList]; exact h)]
  rfl
theorem left_end (s : ByteArray) (k : Nat) (h : s.size ≤ k) : s.data.toList.drop k = [] :=
  List.drop_eq_nil_of_le (by rw [Array.length_toList]; exact h)
theorem run_on (p : UInt8 → Bool) (c : UInt8) (r : List UInt8) (k n : Nat) (hn : n = k + ((c :: r).takeWhile p).length) (h : p c = true) : n = k + 1 + (r.takeWhile p).length := by
  rw [List.takeWhile_cons, if_pos h, List.length_cons] at hn; omega
theorem run_off (p : UInt8 → Bool) (c : UInt8) (r : List UInt8) (k n : Nat) (hn : n = k + ((c :: r).takeWhile p).length) (h : p c = false) : n = k := by
  rw [List.takeWhile_cons, if_neg (by simp [h])] at hn; simpa using hn

set_option maxHeartbeats 400000 in
theorem run_names (s : ByteArray) (hs : s.size ≤ 9223372036854775807) (w : World) :
    Calls Tryz.prog 105 #[.string s, .func (.func 106) #[] #[]] w fun e w' => e = .returned (.int .i64 (((s.data.toList.takeWhile isIn).length : Nat) : Int)) ∧ w = w' := by
  obtain ⟨n, hn⟩ : ∃ n, n = (s.data.toList.takeWhile isIn).length := ⟨_, rfl⟩
  rw [← hn]
  have HN := Lib.hid (show n = 0 + ((s.data.toList.drop 0).takeWhile isIn).length by rw [List.drop_zero]; omega)
  clear hn
  go_enter Tryz.func105, Tryz.ntmps105
  go_wp2
  go_loop [8] (fun i => ∃ k : Nat, k ≤ s.size ∧ Hid (n = k + ((s.data.toList.drop k).takeWhile isIn).length) ∧ i = .int .i64 k) (fun i => s.size - (intOf i).toNat)
  case atStart => exact ⟨0, by omega, HN, rfl⟩
  case round =>
    obtain ⟨k, hk, HR, rfl⟩ := hrel
    by_cases hlt : k < s.size
    · have hr := HR.out
      rw [left_at s k hlt] at hr
      have ha := in_any s[k]
      cases hc : isIn s[k] with
      | true =>
        have HS := Lib.hid (run_on isIn _ _ k n hr hc)
        rw [hc] at ha
        have HA := Lib.hid ha
        clear hr ha hc HR
        go_wp2_with (go_at_call 106; refine (HA.out _).mono ?_; rintro e w' ⟨rfl, rfl⟩)
        go_round
        case rel => exact ⟨k + 1, by omega, HS, by go_num⟩
        case measure => simp [intOf]; omega
      | false =>
        have HS := Lib.hid (run_off isIn _ _ k n hr hc)
        rw [hc] at ha
        have HA := Lib.hid ha
        clear hr ha hc HR
        go_wp2_with (go_at_call 106; refine (HA.out _).mono ?_; rintro e w' ⟨rfl, rfl⟩)
        go_ret
        exact ⟨ret_int (by rw [HS.out]), rfl⟩
    · have hr := HR.out
      rw [left_end s k (by omega)] at hr
      have HS := Lib.hid (show n = s.size by simp at hr; omega)
      clear hr HR
      go_wp2_with fail
      go_ret
      exact ⟨ret_int (by rw [HS.out]), rfl⟩

set_option maxHeartbeats 400000 in
theorem run_digit (s : ByteArray) (hs : s.size ≤ 9223372036854775807) (w : World) :
    Calls Tryz.prog 105 #[.string s, .func (.func 107) #[] #[]] w fun e w' => e = .returned (.int .i64 (((s.data.toList.takeWhile isDigit).length : Nat) : Int)) ∧ w = w' := by
  obtain ⟨n, hn⟩ : ∃ n, n = (s.data.toList.takeWhile isDigit).length := ⟨_, rfl⟩
  rw [← hn]
  have HN := Lib.hid (show n = 0 + ((s.data.toList.drop 0).takeWhile isDigit).length by rw [List.drop_zero]; omega)
  clear hn
  go_enter Tryz.func105, Tryz.ntmps105
  go_wp2
  go_loop [8] (fun i => ∃ k : Nat, k ≤ s.size ∧ Hid (n = k + ((s.data.toList.drop k).takeWhile isDigit).length) ∧ i = .int .i64 k) (fun i => s.size - (intOf i).toNat)
  case atStart => exact ⟨0, by omega, HN, rfl⟩
  case round =>
    obtain ⟨k, hk, HR, rfl⟩ := hrel
    by_cases hlt : k < s.size
    · have hr := HR.out
      rw [left_at s k hlt] at hr
      have ha := digit_any s[k]
      cases hc : isDigit s[k] with
      | true =>
        have HS := Lib.hid (run_on isDigit _ _ k n hr hc)
        rw [hc] at ha
        have HA := Lib.hid ha
        clear hr ha hc HR
        go_wp2_with (go_at_call 107; refine (HA.out _).mono ?_; rintro e w' ⟨rfl, rfl⟩)
        go_round
        case rel => exact ⟨k + 1, by omega, HS, by go_num⟩
        case measure => simp [intOf]; omega
      | false =>
        have HS := Lib.hid (run_off isDigit _ _ k n hr hc)
        rw [hc] at ha
        have HA := Lib.hid ha
        clear hr ha hc HR
        go_wp2_with (go_at_call 107; refine (HA.out _).mono ?_; rintro e w' ⟨rfl, rfl⟩)
        go_ret
        exact ⟨ret_int (by rw [HS.out]), rfl⟩
    · have hr := HR.out
      rw [left_end s k (by omega)] at hr
      have HS := Lib.hid (show n = s.size by simp at hr; omega)
      clear hr HR
      go_wp2_with fail
      go_ret
      exact ⟨ret_int (by rw [HS.out]), rfl⟩
end Go.Proofs.YtnjjcngggdankaaGreatDoor
