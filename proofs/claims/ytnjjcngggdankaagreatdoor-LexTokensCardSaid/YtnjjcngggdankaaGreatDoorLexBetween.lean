/- Which texts are names, how far a remark goes, how far blanks and remarks go: what the lex layer's functions answer, at every text. Each leaves the world as it was. -/
import Derived.Test.YtnjjcngggdankaaGreatDoorRows
import Derived.Test.YtnjjcngggdankaaGreatDoorLexSign
import Derived.Shelf.Strings.Prefix
import Derived.Shelf.Small.Strs
import Derived.Shelf.Strings.Count
import Derived.Lib.Strings
import Derived.WalkKit
import Derived.WalkSpells
import Derived.WalkLawsBesides
import Derived.Lib.Hide
namespace Go.Proofs.YtnjjcngggdankaaGreatDoor
open Go.RowKit

theorem while_all_len (p : UInt8 → Bool) : ∀ l : List UInt8, (l.takeWhile p).length = l.length ↔ l.all p = true
  | [] => by simp
  | c :: r => by
    rw [List.takeWhile_cons, List.all_cons]
    cases h : p c with
    | true => simp [while_all_len p r]
    | false => simp
theorem name_empty : isName [] = false := rfl
theorem name_long (l : List UInt8) (h : 16 < l.length) : isName l = false := by
  unfold isName
  rw [show decide (1 ≤ l.length ∧ l.length ≤ 16) = false from decide_eq_false (by omega)]
  rfl
theorem name_word (l : List UInt8) (h : isWord l = true) : isName l = false := by simp [isName, h]
theorem name_not (c : UInt8) (r : List UInt8) (h : isLetter c = false) : isName (c :: r) = false := by simp [isName, h]
theorem name_is (c : UInt8) (r : List UInt8) (h : isLetter c = true) (hl : (c :: r).length ≤ 16) (hw : isWord (c :: r) = false) : isName (c :: r) = decide ((((c :: r).takeWhile isIn).length : Int) = ((c :: r).length : Int)) := by
  have e := while_all_len isIn (c :: r)
  unfold isName
  rw [hw, show decide (1 ≤ (c :: r).length ∧ (c :: r).length ≤ 16) = true from decide_eq_true ⟨by simp, hl⟩, List.head?_cons, Option.all_some, h]
  rw [Bool.true_and, Bool.true_and, Bool.not_false, Bool.and_true, Bool.eq_iff_iff, ← e, decide_eq_true_eq]
  omega

set_option maxHeartbeats 1000000 in
theorem name_any (s : ByteArray) (hs : s.size ≤ 9223372036854775807) (w : World) :
    Calls Tryz.prog 96 #[.string s] w fun e w' => e = .returned (.bool (isName s.data.toList)) ∧ w = w' := by
  have hsz := size_of s
  by_cases h0 : s.size = 0
  · have he : s.data.toList = [] := List.eq_nil_of_length_eq_zero (by omega)
    have HF := Lib.hid (show isName s.data.toList = false by rw [he]; rfl)
    have k1 : (s.toList.isEmpty) = true := by rw [bytes_list, he]; rfl
    have k2 : s.toList = [] := by rw [bytes_list, he]
    clear h0 hsz he
    go_enter Tryz.func96, Tryz.ntmps96
    go_wp2_with fail
    go_ret
    exact ⟨ret_bool HF.out.symm, rfl⟩
  have hp : 0 < s.size := by omega
  have e0 := left_at s 0 hp
  rw [List.drop_zero] at e0
  have k1 : (s.toList.isEmpty) = false := by rw [bytes_list, e0]; rfl
  by_cases h16 : 16 < s.size
  · have HF := Lib.hid (show isName s.data.toList = false from name_long _ (by omega))
    clear h0 hsz e0
    go_enter Tryz.func96, Tryz.ntmps96
    go_wp2_with fail
    go_ret
    exact ⟨ret_bool HF.out.symm, rfl⟩
  have hw := word_any s
  cases hk : isWord s.data.toList with
  | true =>
    have HF := Lib.hid (show isName s.data.toList = false from name_word _ hk)
    rw [hk] at hw
    have HW := Lib.hid hw
    clear h0 hsz e0 hk hw
    go_enter Tryz.func96, Tryz.ntmps96
    go_wp2_with (go_at_call 95; refine (HW.out _).mono ?_; rintro e w' ⟨rfl, rfl⟩)
    go_ret
    exact ⟨ret_bool HF.out.symm, rfl⟩
  | false =>
    rw [hk] at hw
    have HW := Lib.hid hw
    have hl := letter_any (s[0]'hp)
    cases hc : isLetter (s[0]'hp) with
    | false =>
      have HF := Lib.hid (show isName s.data.toList = false by rw [e0]; exact name_not _ _ hc)
      rw [hc] at hl
      have HL := Lib.hid hl
      clear h0 hsz e0 hk hw hl hc
      go_enter Tryz.func96, Tryz.ntmps96
      go_wp2_with (first | (go_at_call 95; refine (HW.out _).mono ?_; rintro e w' ⟨rfl, rfl⟩) | (go_at_call 103; refine (HL.out _).mono ?_; rintro e w' ⟨rfl, rfl⟩))
      go_ret
      exact ⟨ret_bool HF.out.symm, rfl⟩
    | true =>
      have HF := Lib.hid (show isName s.data.toList = decide (((s.data.toList.takeWhile isIn).length : Int) = (s.size : Int)) by
        have e := name_is _ _ hc (by rw [← e0]; omega) (by rw [← e0]; exact hk)
        rw [← e0, hsz] at e
        exact e)
      rw [hc] at hl
      have HL := Lib.hid hl
      have HR := Lib.hid (run_names s hs)
      clear h0 hsz e0 hk hw hl hc
      go_enter Tryz.func96, Tryz.ntmps96
      go_wp2_with (first | (go_at_call 95; refine (HW.out _).mono ?_; rintro e w' ⟨rfl, rfl⟩) | (go_at_call 103; refine (HL.out _).mono ?_; rintro e w' ⟨rfl, rfl⟩) | (go_at_call 105; refine (HR.out _).mono ?_; rintro e w' ⟨rfl, rfl⟩))
      go_ret
      refine ⟨ret_bool ?_, rfl⟩
      rw [HF.out, Bool.eq_iff_iff]
      simp

set_option maxHeartbeats 400000 in
theorem remark_any (s : ByteArray) (w : World) :
    Calls Tryz.prog 99 #[.string s] w fun e w' => e = .returned (.int .i64 (((s.data.toList.takeWhile notFeed).length : Nat) : Int)) ∧ w = w' := by
  have hi : ∀ w, Calls Tryz.prog 170 #[.string s, .int .u8 10] w fun e w' => e = .returned (.int .i64 (Lib.indexByte s.data.toList 10)) ∧ w = w' := fun w =>
    (Any.strings_IndexByte Tryz.lays137 s 10 w).mono fun _ _ ⟨he, hw⟩ => ⟨he, hw.symm⟩
  obtain ⟨n, hn⟩ : ∃ n, n = (s.data.toList.takeWhile notFeed).length := ⟨_, rfl⟩
  rw [← hn]
  rcases index_feed s.data.toList with ⟨h1, h2⟩ | h1
  · rw [h1] at hi
    rw [h2, size_of] at hn
    have HI := Lib.hid hi
    subst hn
    clear hi h1 h2
    go_enter Tryz.func99, Tryz.ntmps99
    go_wp2_with (go_at_call 170; refine (HI.out _).mono ?_; rintro e w' ⟨rfl, rfl⟩)
    go_ret
    exact ⟨rfl, rfl⟩
  · rw [h1, ← hn] at hi
    have HI := Lib.hid hi
    have hp : (0 : Int) ≤ (n : Int) := by omega
    clear hi h1 hn
    go_enter Tryz.func99, Tryz.ntmps99
    go_wp2_with (go_at_call 170; refine (HI.out _).mono ?_; rintro e w' ⟨rfl, rfl⟩)
    go_ret
    exact ⟨rfl, rfl⟩

theorem rem_feed (c : UInt8) (r : List UInt8) (h : isRem c r = true) : notFeed c = true := by
  unfold isRem at h
  simp at h
  unfold notFeed
  simp [h.1]

set_option maxHeartbeats 1000000 in
theorem gap_any (s : ByteArray) (hs : s.size ≤ 9223372036854775807) (w : World) :
    Calls Tryz.prog 10 #[.string s] w fun e w' => e = .returned (.int .i64 ((gapN s.data.toList : Nat) : Int)) ∧ w = w' := by
  obtain ⟨n, hn⟩ : ∃ n, n = gapN s.data.toList := ⟨_, rfl⟩
  rw [← hn]
  have HN := Lib.hid (show n = 0 + gapN (s.data.toList.drop 0) by rw [List.drop_zero]; omega)
  clear hn
  have Hp : Hid (∀ (a : ByteArray) (w : World), Calls Tryz.prog 98 #[.string a, .string ⟨#[47, 47]⟩] w fun e w' => e = .returned (.bool (Lib.hasPrefix a.data.toList [47, 47])) ∧ w = w') := Lib.hid fun a w =>
    (Any.strings_HasPrefix Tryz.lays99 a ⟨#[47, 47]⟩ w).mono fun _ _ ⟨he, hw⟩ => ⟨he, hw.symm⟩
  go_enter Tryz.func10, Tryz.ntmps10
  go_wp2
  go_loop [3] (fun i => ∃ k : Nat, k ≤ s.size ∧ Hid (n = k + gapN (s.data.toList.drop k)) ∧ i = .int .i64 k) (fun i => s.size - (intOf i).toNat)
  case atStart => exact ⟨0, by omega, HN, rfl⟩
  case round =>
    obtain ⟨k, hk, HR, rfl⟩ := hrel
    by_cases hlt : k < s.size
    · have hr := HR.out
      have e := left_at s k hlt
      have ht := tail_at s k
      rw [e] at hr ht
      have ha := blank_any s[k]
      have hsz := size_of s
      cases hc : isBlank s[k] with
      | true =>
        have HS := Lib.hid (show n = k + 1 + gapN (s.data.toList.drop (k + 1)) by rw [gapN_blank _ _ hc] at hr; omega)
        rw [hc] at ha
        have HA := Lib.hid ha
        clear hr ha hc HR e ht hsz
        go_wp2_with (go_at_call 97; refine (HA.out _).mono ?_; rintro e w' ⟨rfl, rfl⟩)
        go_round
        case rel => exact ⟨k + 1, by omega, HS, by go_num⟩
        case measure => simp [intOf]; omega
      | false =>
        rw [hc] at ha
        have HA := Lib.hid ha
        have hq := fun w => Hp.out (s.extract k s.size) w
        rw [ht, prefix_rem] at hq
        cases hm : isRem s[k] (s.data.toList.drop (k + 1)) with
        | true =>
          rw [hm] at hq
          have hk2 := remark_any (s.extract k s.size)
          rw [ht, List.takeWhile_cons, if_pos (rem_feed _ _ hm), List.length_cons] at hk2
          obtain ⟨m, hm2⟩ : ∃ m, m = ((s.data.toList.drop (k + 1)).takeWhile notFeed).length := ⟨_, rfl⟩
          rw [← hm2] at hk2
          have hle : m ≤ s.size - (k + 1) := by
            have := while_len notFeed (s.data.toList.drop (k + 1))
            rw [List.length_drop, hsz] at this
            omega
          have HS := Lib.hid (show n = k + (m + 1) + gapN (s.data.toList.drop (k + (m + 1))) by
            rw [gapN_rem _ _ hc hm, ← hm2, ← split_while, ← hm2, List.drop_drop] at hr
            rw [show k + (m + 1) = k + 1 + m by omega]
            omega)
          have HQ := Lib.hid hq
          have HK := Lib.hid hk2
          clear hr ha hc HR e ht hsz hq hm hk2 hm2
          go_wp2_with (first | (go_at_call 97; refine (HA.out _).mono ?_; rintro e w' ⟨rfl, rfl⟩) | (go_at_call 98; refine (HQ.out _).mono ?_; rintro e w' ⟨rfl, rfl⟩) | (go_at_call 99; refine (HK.out _).mono ?_; rintro e w' ⟨rfl, rfl⟩))
          go_round
          case rel => exact ⟨k + (m + 1), by omega, HS, by go_num⟩
          case measure => simp [intOf]; omega
        | false =>
          rw [hm] at hq
          have HS := Lib.hid (show n = k by rw [gapN_stop _ _ hc hm] at hr; omega)
          have HQ := Lib.hid hq
          clear hr ha hc HR e ht hsz hq hm
          go_wp2_with (first | (go_at_call 97; refine (HA.out _).mono ?_; rintro e w' ⟨rfl, rfl⟩) | (go_at_call 98; refine (HQ.out _).mono ?_; rintro e w' ⟨rfl, rfl⟩))
          go_ret
          exact ⟨ret_int (by rw [HS.out]), rfl⟩
    · have hr := HR.out
      rw [left_end s k (by omega), gapN_nil] at hr
      have HS := Lib.hid (show n = k by omega)
      clear hr HR
      go_wp2_with fail
      go_ret
      exact ⟨ret_int (by rw [HS.out]), rfl⟩
end Go.Proofs.YtnjjcngggdankaaGreatDoor
