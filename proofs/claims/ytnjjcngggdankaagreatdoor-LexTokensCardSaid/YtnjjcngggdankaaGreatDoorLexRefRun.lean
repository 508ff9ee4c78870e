/- The document's own answers for bytes of names and numbers, for runs of them, and for signs, at every text. -/
import Derived.Test.YtnjjcngggdankaaGreatDoorRows
import Derived.Test.YtnjjcngggdankaaGreatDoorLexSame
import Derived.Test.YtnjjcngggdankaaGreatDoorWordDig
import Derived.Deep.QuietTactic
import Derived.Deep.Draws
import Derived.BigQuiet
import Derived.WalkKit
import Derived.WalkSpells
import Derived.WalkLawsBesides
import Derived.Lib.Hide
namespace Go.Proofs.YtnjjcngggdankaaGreatDoor
open Go.RowKit

set_option maxHeartbeats 400000 in
theorem rletter_any (c : UInt8) (w : World) :
    Calls Tryz.prog 111 #[.int .u8 (c.toNat : Int)] w fun e w' => e = .returned (.bool (isLetter c)) ∧ w = w' := by
  by_cases h0 : 97 ≤ c.toNat
  · by_cases h1 : c.toNat ≤ 122
    · have HF := Lib.hid (show isLetter c = true by unfold isLetter; simp [h0, h1])
      have dd : (decide ((c.toNat : Int) ≤ 122)) = true := decide_eq_true (by omega)
      go_enter Tryz.func111, Tryz.ntmps111
      go_wp2
      go_ret
      exact ⟨ret_bool HF.out.symm, rfl⟩
    · have HF := Lib.hid (show isLetter c = false by unfold isLetter; simp [h1])
      have dd : (decide ((c.toNat : Int) ≤ 122)) = false := decide_eq_false (by omega)
      go_enter Tryz.func111, Tryz.ntmps111
      go_wp2
      go_ret
      exact ⟨ret_bool HF.out.symm, rfl⟩
  · have HF := Lib.hid (show isLetter c = false by unfold isLetter; simp [h0])
    go_enter Tryz.func111, Tryz.ntmps111
    go_wp2
    go_ret
    exact ⟨ret_bool HF.out.symm, rfl⟩
set_option maxHeartbeats 400000 in
theorem rdigit_any (c : UInt8) (w : World) :
    Calls Tryz.prog 114 #[.int .u8 (c.toNat : Int)] w fun e w' => e = .returned (.bool (isDigit c)) ∧ w = w' := by
  by_cases h0 : 48 ≤ c.toNat
  · by_cases h1 : c.toNat ≤ 57
    · have HF := Lib.hid (show isDigit c = true by unfold isDigit; simp [h0, h1])
      have dd : (decide ((c.toNat : Int) ≤ 57)) = true := decide_eq_true (by omega)
      go_enter Tryz.func114, Tryz.ntmps114
      go_wp2
      go_ret
      exact ⟨ret_bool HF.out.symm, rfl⟩
    · have HF := Lib.hid (show isDigit c = false by unfold isDigit; simp [h1])
      have dd : (decide ((c.toNat : Int) ≤ 57)) = false := decide_eq_false (by omega)
      go_enter Tryz.func114, Tryz.ntmps114
      go_wp2
      go_ret
      exact ⟨ret_bool HF.out.symm, rfl⟩
  · have HF := Lib.hid (show isDigit c = false by unfold isDigit; simp [h0])
    go_enter Tryz.func114, Tryz.ntmps114
    go_wp2
    go_ret
    exact ⟨ret_bool HF.out.symm, rfl⟩

theorem in_cases (c : UInt8) (h1 : isDigit c = false) (h2 : isLetter c = false) : isIn c = decide (c.toNat = 95) := by simp [isIn, h1, h2]

set_option maxHeartbeats 400000 in
theorem rrun_names (s : ByteArray) (hs : s.size ≤ 9223372036854775807) (w : World) :
    Calls Tryz.prog 112 #[.string s, .bool true] w fun e w' => e = .returned (.int .i64 (((s.data.toList.takeWhile isIn).length : Nat) : Int)) ∧ w = w' := by
  obtain ⟨n, hn⟩ : ∃ n, n = (s.data.toList.takeWhile isIn).length := ⟨_, rfl⟩
  rw [← hn]
  have HN := Lib.hid (show n = 0 + ((s.data.toList.drop 0).takeWhile isIn).length by rw [List.drop_zero]; omega)
  clear hn
  go_enter Tryz.func112, Tryz.ntmps112
  go_wp2
  go_loop [5] (fun i => ∃ k : Nat, k ≤ s.size ∧ Hid (n = k + ((s.data.toList.drop k).takeWhile isIn).length) ∧ i = .int .i64 k) (fun i => s.size - (intOf i).toNat)
  case atStart => exact ⟨0, by omega, HN, rfl⟩
  case round =>
    obtain ⟨k, hk, HR, rfl⟩ := hrel
    by_cases hlt : k < s.size
    · have hr := HR.out
      rw [left_at s k hlt] at hr
      have hd := rdigit_any s[k]
      have hl := rletter_any s[k]
      cases hcd : isDigit s[k] with
      | true =>
        have HS := Lib.hid (run_on isIn _ _ k n hr (digit_in _ hcd))
        rw [hcd] at hd
        have HD := Lib.hid hd
        clear hr hd hl hcd HR
        go_wp2_with (go_at_call 114; refine (HD.out _).mono ?_; rintro e w' ⟨rfl, rfl⟩)
        go_round
        case rel => exact ⟨k + 1, by omega, HS, by go_num⟩
        case measure => simp [intOf]; omega
      | false =>
        rw [hcd] at hd
        cases hcl : isLetter s[k] with
        | true =>
          have HS := Lib.hid (run_on isIn _ _ k n hr (letter_in _ hcl))
          rw [hcl] at hl
          have HD := Lib.hid hd
          have HL := Lib.hid hl
          clear hr hd hl hcd hcl HR
          go_wp2_with (first | (go_at_call 114; refine (HD.out _).mono ?_; rintro e w' ⟨rfl, rfl⟩) | (go_at_call 111; refine (HL.out _).mono ?_; rintro e w' ⟨rfl, rfl⟩))
          go_round
          case rel => exact ⟨k + 1, by omega, HS, by go_num⟩
          case measure => simp [intOf]; omega
        | false =>
          have hin := in_cases _ hcd hcl
          rw [hcl] at hl
          have HD := Lib.hid hd
          have HL := Lib.hid hl
          by_cases h95 : s[k].toNat = 95
          · have HS := Lib.hid (run_on isIn _ _ k n hr (by rw [hin]; exact decide_eq_true h95))
            have q1 : ((s[k].toNat : Int) == 95) = true := b_yes (by omega)
            clear hr hd hl hcd hcl HR hin h95
            go_wp2_with (first | (go_at_call 114; refine (HD.out _).mono ?_; rintro e w' ⟨rfl, rfl⟩) | (go_at_call 111; refine (HL.out _).mono ?_; rintro e w' ⟨rfl, rfl⟩))
            go_round
            case rel => exact ⟨k + 1, by omega, HS, by go_num⟩
            case measure => simp [intOf]; omega
          · have HS := Lib.hid (run_off isIn _ _ k n hr (by rw [hin]; exact decide_eq_false h95))
            have q1 : ((s[k].toNat : Int) == 95) = false := b_no (by omega)
            clear hr hd hl hcd hcl HR hin h95
            go_wp2_with (first | (go_at_call 114; refine (HD.out _).mono ?_; rintro e w' ⟨rfl, rfl⟩) | (go_at_call 111; refine (HL.out _).mono ?_; rintro e w' ⟨rfl, rfl⟩))
            go_ret
            exact ⟨ret_int (by rw [HS.out]), rfl⟩
    · have hr := HR.out
      rw [left_end s k (by omega)] at hr
      have HS := Lib.hid (show n = k by simp at hr; omega)
      clear hr HR
      go_wp2_with fail
      go_ret
      exact ⟨ret_int (by rw [HS.out]), rfl⟩

set_option maxHeartbeats 400000 in
theorem rrun_digits (s : ByteArray) (hs : s.size ≤ 9223372036854775807) (w : World) :
    Calls Tryz.prog 112 #[.string s, .bool false] w fun e w' => e = .returned (.int .i64 (((s.data.toList.takeWhile isDigit).length : Nat) : Int)) ∧ w = w' := by
  obtain ⟨n, hn⟩ : ∃ n, n = (s.data.toList.takeWhile isDigit).length := ⟨_, rfl⟩
  rw [← hn]
  have HN := Lib.hid (show n = 0 + ((s.data.toList.drop 0).takeWhile isDigit).length by rw [List.drop_zero]; omega)
  clear hn
  go_enter Tryz.func112, Tryz.ntmps112
  go_wp2
  go_loop [5] (fun i => ∃ k : Nat, k ≤ s.size ∧ Hid (n = k + ((s.data.toList.drop k).takeWhile isDigit).length) ∧ i = .int .i64 k) (fun i => s.size - (intOf i).toNat)
  case atStart => exact ⟨0, by omega, HN, rfl⟩
  case round =>
    obtain ⟨k, hk, HR, rfl⟩ := hrel
    by_cases hlt : k < s.size
    · have hr := HR.out
      rw [left_at s k hlt] at hr
      have hd := rdigit_any s[k]
      cases hcd : isDigit s[k] with
      | true =>
        have HS := Lib.hid (run_on isDigit _ _ k n hr hcd)
        rw [hcd] at hd
        have HD := Lib.hid hd
        clear hr hd hcd HR
        go_wp2_with (go_at_call 114; refine (HD.out _).mono ?_; rintro e w' ⟨rfl, rfl⟩)
        go_round
        case rel => exact ⟨k + 1, by omega, HS, by go_num⟩
        case measure => simp [intOf]; omega
      | false =>
        have HS := Lib.hid (run_off isDigit _ _ k n hr hcd)
        rw [hcd] at hd
        have HD := Lib.hid hd
        clear hr hd hcd HR
        go_wp2_with (go_at_call 114; refine (HD.out _).mono ?_; rintro e w' ⟨rfl, rfl⟩)
        go_ret
        exact ⟨ret_int (by rw [HS.out]), rfl⟩
    · have hr := HR.out
      rw [left_end s k (by omega)] at hr
      have HS := Lib.hid (show n = k by simp at hr; omega)
      clear hr HR
      go_wp2_with fail
      go_ret
      exact ⟨ret_int (by rw [HS.out]), rfl⟩
end Go.Proofs.YtnjjcngggdankaaGreatDoor
