/- Which texts are names: what the lex layer's Name and all that it calls answer, at every text, and the document's own answer. Each leaves the world as it was. -/
import Derived.Test.YtflbplljlkpeiaaDoorRows
import Derived.Test.YtflbplljlkpeiaaDoorLexPlain
import Derived.WalkKit
import Derived.WalkSpells
import Derived.WalkLawsBesides
import Derived.Lib.Hide
namespace Go.Proofs.YtflbplljlkpeiaaDoor
open Go.RowKit

theorem bytes_list (s : ByteArray) : s.toList = s.data.toList := ByteArray.toList_eq s
theorem size_of (s : ByteArray) : s.data.toList.length = s.size := Array.length_toList
theorem b_yes {a b : Int} (h : a = b) : (a == b) = true := beq_iff_eq.2 h
theorem b_no {a b : Int} (h : ¬ a = b) : (a == b) = false := beq_eq_false_iff_ne.2 h
theorem ret_bool {a b : Bool} (h : a = b) : Ending.returned (.bool a) = Ending.returned (.bool b) := by rw [h]
theorem ret_int {k : IntKind} {a b : Int} (h : a = b) : Ending.returned (.int k a) = Ending.returned (.int k b) := by rw [h]

set_option maxHeartbeats 400000 in
theorem letter_any (c : UInt8) (w : World) :
    Calls Tryd.prog 58 #[.int .u8 (c.toNat : Int)] w fun e w' => e = .returned (.bool (isLetter c)) ∧ w = w' := by
  by_cases h0 : 97 ≤ c.toNat
  · by_cases h1 : c.toNat ≤ 122
    · have HF := Lib.hid (show isLetter c = true by unfold isLetter; simp [h0, h1])
      have dd : (decide ((c.toNat : Int) ≤ 122)) = true := decide_eq_true (by omega)
      go_enter Tryd.func58, Tryd.ntmps58
      go_wp2
      go_ret
      exact ⟨ret_bool HF.out.symm, rfl⟩
    · have HF := Lib.hid (show isLetter c = false by unfold isLetter; simp [h1])
      have dd : (decide ((c.toNat : Int) ≤ 122)) = false := decide_eq_false (by omega)
      go_enter Tryd.func58, Tryd.ntmps58
      go_wp2
      go_ret
      exact ⟨ret_bool HF.out.symm, rfl⟩
  · have HF := Lib.hid (show isLetter c = false by unfold isLetter; simp [h0])
    go_enter Tryd.func58, Tryd.ntmps58
    go_wp2
    go_ret
    exact ⟨ret_bool HF.out.symm, rfl⟩

set_option maxHeartbeats 400000 in
theorem digit_any (c : UInt8) (w : World) :
    Calls Tryd.prog 77 #[.int .u8 (c.toNat : Int)] w fun e w' => e = .returned (.bool (isDigit c)) ∧ w = w' := by
  by_cases h0 : 48 ≤ c.toNat
  · by_cases h1 : c.toNat ≤ 57
    · have HF := Lib.hid (show isDigit c = true by unfold isDigit; simp [h0, h1])
      have dd : (decide ((c.toNat : Int) ≤ 57)) = true := decide_eq_true (by omega)
      go_enter Tryd.func77, Tryd.ntmps77
      go_wp2
      go_ret
      exact ⟨ret_bool HF.out.symm, rfl⟩
    · have HF := Lib.hid (show isDigit c = false by unfold isDigit; simp [h1])
      have dd : (decide ((c.toNat : Int) ≤ 57)) = false := decide_eq_false (by omega)
      go_enter Tryd.func77, Tryd.ntmps77
      go_wp2
      go_ret
      exact ⟨ret_bool HF.out.symm, rfl⟩
  · have HF := Lib.hid (show isDigit c = false by unfold isDigit; simp [h0])
    go_enter Tryd.func77, Tryd.ntmps77
    go_wp2
    go_ret
    exact ⟨ret_bool HF.out.symm, rfl⟩

set_option maxHeartbeats 400000 in
theorem in_any (c : UInt8) (w : World) :
    Calls Tryd.prog 60 #[.int .u8 (c.toNat : Int)] w fun e w' => e = .returned (.bool (isIn c)) ∧ w = w' := by
  have h1 := letter_any c
  have h2 := digit_any c
  cases hl : isLetter c with
  | true =>
    rw [hl] at h1
    have HF := Lib.hid (show isIn c = true by unfold isIn; simp [hl])
    have H1 := Lib.hid h1
    clear h1 h2 hl
    go_enter Tryd.func60, Tryd.ntmps60
    go_wp2_with (go_at_call 58; refine (H1.out _).mono ?_; rintro e w' ⟨rfl, rfl⟩)
    go_ret
    exact ⟨ret_bool HF.out.symm, rfl⟩
  | false =>
    cases hd : isDigit c with
    | true =>
      rw [hl] at h1
      rw [hd] at h2
      have HF := Lib.hid (show isIn c = true by unfold isIn; simp [hd])
      have H1 := Lib.hid h1
      have H2 := Lib.hid h2
      clear h1 h2 hl hd
      go_enter Tryd.func60, Tryd.ntmps60
      go_wp2_with (first | (go_at_call 58; refine (H1.out _).mono ?_; rintro e w' ⟨rfl, rfl⟩) | (go_at_call 77; refine (H2.out _).mono ?_; rintro e w' ⟨rfl, rfl⟩))
      go_ret
      exact ⟨ret_bool HF.out.symm, rfl⟩
    | false =>
      rw [hl] at h1
      rw [hd] at h2
      by_cases h95 : c.toNat = 95
      · have HF := Lib.hid (show isIn c = true by unfold isIn; simp [h95])
        have b0 : ((c.toNat : Int) == 95) = true := b_yes (by omega)
        have H1 := Lib.hid h1
        have H2 := Lib.hid h2
        clear h1 h2 hl hd h95
        go_enter Tryd.func60, Tryd.ntmps60
        go_wp2_with (first | (go_at_call 58; refine (H1.out _).mono ?_; rintro e w' ⟨rfl, rfl⟩) | (go_at_call 77; refine (H2.out _).mono ?_; rintro e w' ⟨rfl, rfl⟩))
        go_ret
        exact ⟨ret_bool HF.out.symm, rfl⟩
      · have HF := Lib.hid (show isIn c = false by unfold isIn; simp [hl, hd, h95])
        have b0 : ((c.toNat : Int) == 95) = false := b_no (by omega)
        have H1 := Lib.hid h1
        have H2 := Lib.hid h2
        clear h1 h2 hl hd h95
        go_enter Tryd.func60, Tryd.ntmps60
        go_wp2_with (first | (go_at_call 58; refine (H1.out _).mono ?_; rintro e w' ⟨rfl, rfl⟩) | (go_at_call 77; refine (H2.out _).mono ?_; rintro e w' ⟨rfl, rfl⟩))
        go_ret
        exact ⟨ret_bool HF.out.symm, rfl⟩

theorem left_at (s : ByteArray) (k : Nat) (h : k < s.size) : s.data.toList.drop k = s[k] :: s.data.toList.drop (k + 1) := by
  rw [List.drop_eq_getElem_cons (by rw [Array.length_toList]; exact h)]
  rfl
theorem left_end (s : ByteArray) (k : Nat) (h : s.size ≤ k) : s.data.toList.drop k = [] :=
  List.drop_eq_nil_of_le (by rw [Array.length_toList]; exact h)
theorem run_on (p : UInt8 → Bool) (c : UInt8) (r : List UInt8) (k n : Nat) (hn : n = k + ((c :: r).takeWhile p).length) (h : p c = true) : n = k + 1 + (r.takeWhile p).length := by
  rw [List.takeWhile_cons, if_pos h, List.length_cons] at hn; omega
theorem run_off (p : UInt8 → Bool) (c : UInt8) (r : List UInt8) (k n : Nat) (hn : n = k + ((c :: r).takeWhile p).length) (h : p c = false) : n = k := by
  rw [List.takeWhile_cons, if_neg (by simp [h])] at hn; simpa using hn

set_option maxHeartbeats 400000 in
theorem run_names (s : ByteArray) (hs : s.size ≤ 9223372036854775807) (w : World) :
    Calls Tryd.prog 59 #[.string s, .func (.func 60) #[] #[]] w fun e w' => e = .returned (.int .i64 (((s.data.toList.takeWhile isIn).length : Nat) : Int)) ∧ w = w' := by
  obtain ⟨n, hn⟩ : ∃ n, n = (s.data.toList.takeWhile isIn).length := ⟨_, rfl⟩
  rw [← hn]
  have HN := Lib.hid (show n = 0 + ((s.data.toList.drop 0).takeWhile isIn).length by rw [List.drop_zero]; omega)
  clear hn
  go_enter Tryd.func59, Tryd.ntmps59
  go_wp2
  go_loop [8] (fun i => ∃ k : Nat, k ≤ s.size ∧ Hid (n = k + ((s.data.toList.drop k).takeWhile isIn).length) ∧ i = .int .i64 k) (fun i => s.size - (intOf i).toNat)
  case atStart => exact ⟨0, by omega, HN, rfl⟩
  case round =>
    obtain ⟨k, hk, HR, rfl⟩ := hrel
    by_cases hlt : k < s.size
    · have hr := HR.out
      rw [left_at s k hlt] at hr
      have ha := in_any s[k]
      cases hc : isIn s[k] with
      | true =>
        have HS := Lib.hid (run_on isIn _ _ k n hr hc)
        rw [hc] at ha
        have HA := Lib.hid ha
        clear hr ha hc HR
        go_wp2_with (go_at_call 60; refine (HA.out _).mono ?_; rintro e w' ⟨rfl, rfl⟩)
        go_round
        case rel => exact ⟨k + 1, by omega, HS, by go_num⟩
        case measure => simp [intOf]; omega
      | false =>
        have HS := Lib.hid (run_off isIn _ _ k n hr hc)
        rw [hc] at ha
        have HA := Lib.hid ha
        clear hr ha hc HR
        go_wp2_with (go_at_call 60; refine (HA.out _).mono ?_; rintro e w' ⟨rfl, rfl⟩)
        go_ret
        exact ⟨ret_int (by rw [HS.out]), rfl⟩
    · have hr := HR.out
      rw [left_end s k (by omega)] at hr
      have HS := Lib.hid (show n = s.size by simp at hr; omega)
      clear hr HR
      go_wp2_with fail
      go_ret
      exact ⟨ret_int (by rw [HS.out]), rfl⟩

set_option maxHeartbeats 400000 in
theorem word_any (s : ByteArray) (w : World) :
    Calls Tryd.prog 57 #[.string s] w fun e w' => e = .returned (.bool (isWord s.data.toList)) ∧ w = w' := by
  go_enter Tryd.func57, Tryd.ntmps57
  go_wp2
  all_goals first
    | (exfalso; simp_all; done)
    | (go_ret; refine ⟨ret_bool ?_, rfl⟩; rw [← bytes_list]; unfold isWord wordsL; simp only [List.contains_cons, List.contains_nil, *, Bool.true_or, Bool.false_or, Bool.or_true])

theorem while_all_len (p : UInt8 → Bool) : ∀ l : List UInt8, (l.takeWhile p).length = l.length ↔ l.all p = true
  | [] => by simp
  | c :: r => by
    rw [List.takeWhile_cons, List.all_cons]
    cases h : p c with
    | true => simp [while_all_len p r]
    | false => simp
theorem name_empty : isName [] = false := rfl
theorem name_long (l : List UInt8) (h : 16 < l.length) : isName l = false := by
  unfold isName
  rw [show decide (1 ≤ l.length ∧ l.length ≤ 16) = false from decide_eq_false (by omega)]
  rfl
theorem name_word (l : List UInt8) (h : isWord l = true) : isName l = false := by simp [isName, h]
theorem name_not (c : UInt8) (r : List UInt8) (h : isLetter c = false) : isName (c :: r) = false := by simp [isName, h]
theorem name_is (c : UInt8) (r : List UInt8) (h : isLetter c = true) (hl : (c :: r).length ≤ 16) (hw : isWord (c :: r) = false) : isName (c :: r) = decide ((((c :: r).takeWhile isIn).length : Int) = ((c :: r).length : Int)) := by
  have e := while_all_len isIn (c :: r)
  unfold isName
  rw [hw, show decide (1 ≤ (c :: r).length ∧ (c :: r).length ≤ 16) = true from decide_eq_true ⟨by simp, hl⟩, List.head?_cons, Option.all_some, h]
  rw [Bool.true_and, Bool.true_and, Bool.not_false, Bool.and_true, Bool.eq_iff_iff, ← e, decide_eq_true_eq]
  omega

set_option maxHeartbeats 1000000 in
theorem name_any (s : ByteArray) (hs : s.size ≤ 9223372036854775807) (w : World) :
    Calls Tryd.prog 33 #[.string s] w fun e w' => e = .returned (.bool (isName s.data.toList)) ∧ w = w' := by
  have hsz := size_of s
  by_cases h0 : s.size = 0
  · have he : s.data.toList = [] := List.eq_nil_of_length_eq_zero (by omega)
    have HF := Lib.hid (show isName s.data.toList = false by rw [he]; rfl)
    have k1 : (s.toList.isEmpty) = true := by rw [bytes_list, he]; rfl
    have k2 : s.toList = [] := by rw [bytes_list, he]
    clear h0 hsz he
    go_enter Tryd.func33, Tryd.ntmps33
    go_wp2_with fail
    go_ret
    exact ⟨ret_bool HF.out.symm, rfl⟩
  have hp : 0 < s.size := by omega
  have e0 := left_at s 0 hp
  rw [List.drop_zero] at e0
  have k1 : (s.toList.isEmpty) = false := by rw [bytes_list, e0]; rfl
  by_cases h16 : 16 < s.size
  · have HF := Lib.hid (show isName s.data.toList = false from name_long _ (by omega))
    clear h0 hsz e0
    go_enter Tryd.func33, Tryd.ntmps33
    go_wp2_with fail
    go_ret
    exact ⟨ret_bool HF.out.symm, rfl⟩
  have hw := word_any s
  cases hk : isWord s.data.toList with
  | true =>
    have HF := Lib.hid (show isName s.data.toList = false from name_word _ hk)
    rw [hk] at hw
    have HW := Lib.hid hw
    clear h0 hsz e0 hk hw
    go_enter Tryd.func33, Tryd.ntmps33
    go_wp2_with (go_at_call 57; refine (HW.out _).mono ?_; rintro e w' ⟨rfl, rfl⟩)
    go_ret
    exact ⟨ret_bool HF.out.symm, rfl⟩
  | false =>
    rw [hk] at hw
    have HW := Lib.hid hw
    have hl := letter_any (s[0]'hp)
    cases hc : isLetter (s[0]'hp) with
    | false =>
      have HF := Lib.hid (show isName s.data.toList = false by rw [e0]; exact name_not _ _ hc)
      rw [hc] at hl
      have HL := Lib.hid hl
      clear h0 hsz e0 hk hw hl hc
      go_enter Tryd.func33, Tryd.ntmps33
      go_wp2_with (first | (go_at_call 57; refine (HW.out _).mono ?_; rintro e w' ⟨rfl, rfl⟩) | (go_at_call 58; refine (HL.out _).mono ?_; rintro e w' ⟨rfl, rfl⟩))
      go_ret
      exact ⟨ret_bool HF.out.symm, rfl⟩
    | true =>
      have HF := Lib.hid (show isName s.data.toList = decide (((s.data.toList.takeWhile isIn).length : Int) = (s.size : Int)) by
        have e := name_is _ _ hc (by rw [← e0]; omega) (by rw [← e0]; exact hk)
        rw [← e0, hsz] at e
        exact e)
      rw [hc] at hl
      have HL := Lib.hid hl
      have HR := Lib.hid (run_names s hs)
      clear h0 hsz e0 hk hw hl hc
      go_enter Tryd.func33, Tryd.ntmps33
      go_wp2_with (first | (go_at_call 57; refine (HW.out _).mono ?_; rintro e w' ⟨rfl, rfl⟩) | (go_at_call 58; refine (HL.out _).mono ?_; rintro e w' ⟨rfl, rfl⟩) | (go_at_call 59; refine (HR.out _).mono ?_; rintro e w' ⟨rfl, rfl⟩))
      go_ret
      refine ⟨ret_bool ?_, rfl⟩
      rw [HF.out, Bool.eq_iff_iff]
      simp

set_option maxHeartbeats 400000 in
theorem rword_any (s : ByteArray) (w : World) :
    Calls Tryd.prog 63 #[.string s] w fun e w' => e = .returned (.bool (isWord s.data.toList)) ∧ w = w' := by
  go_enter Tryd.func63, Tryd.ntmps63
  go_wp2
  all_goals first
    | (exfalso; simp_all; done)
    | (go_ret; refine ⟨ret_bool ?_, rfl⟩; rw [← bytes_list]; unfold isWord wordsL; simp only [List.contains_cons, List.contains_nil, *, Bool.true_or, Bool.false_or, Bool.or_true])

theorem name_low (c : UInt8) (h : c.toNat < 97) : isLetter c = false := decide_eq_false (by omega)
theorem name_high (c : UInt8) (h : 122 < c.toNat) : isLetter c = false := decide_eq_false (by omega)
theorem name_all (l : List UInt8) (c : UInt8) (r : List UInt8) (e : l = c :: r) (h : isLetter c = true) (hl : l.length ≤ 16) (hw : isWord l = false) : isName l = l.all isIn := by
  subst e
  unfold isName
  rw [hw, show decide (1 ≤ (c :: r).length ∧ (c :: r).length ≤ 16) = true from decide_eq_true ⟨by simp, hl⟩, List.head?_cons, Option.all_some, h]
  rw [Bool.true_and, Bool.true_and, Bool.not_false, Bool.and_true]

set_option maxHeartbeats 1000000 in
theorem rname_any (s : ByteArray) (w : World) :
    Calls Tryd.prog 40 #[.string s] w fun e w' => e = .returned (.bool (isName s.data.toList)) ∧ w = w' := by
  have hsz := size_of s
  by_cases h0 : s.size = 0
  · have he : s.data.toList = [] := List.eq_nil_of_length_eq_zero (by omega)
    have HF := Lib.hid (show isName s.data.toList = false by rw [he]; rfl)
    have hz : (s.size : Int) < 1 := by omega
    clear h0 hsz he
    go_enter Tryd.func40, Tryd.ntmps40
    go_wp2_with fail
    go_ret
    exact ⟨ret_bool HF.out.symm, rfl⟩
  have hp : 0 < s.size := by omega
  have e0 := left_at s 0 hp
  rw [List.drop_zero] at e0
  by_cases h16 : 16 < s.size
  · have HF := Lib.hid (show isName s.data.toList = false from name_long _ (by omega))
    clear h0 hsz e0
    go_enter Tryd.func40, Tryd.ntmps40
    go_wp2_with fail
    go_ret
    exact ⟨ret_bool HF.out.symm, rfl⟩
  by_cases hlo : (s[0]'hp).toNat < 97
  · have HF := Lib.hid (show isName s.data.toList = false by rw [e0]; exact name_not _ _ (name_low _ hlo))
    clear h0 hsz e0
    go_enter Tryd.func40, Tryd.ntmps40
    go_wp2_with fail
    go_ret
    exact ⟨ret_bool HF.out.symm, rfl⟩
  by_cases hhi : 122 < (s[0]'hp).toNat
  · have HF := Lib.hid (show isName s.data.toList = false by rw [e0]; exact name_not _ _ (name_high _ hhi))
    clear h0 hsz e0
    go_enter Tryd.func40, Tryd.ntmps40
    go_wp2_with fail
    go_ret
    exact ⟨ret_bool HF.out.symm, rfl⟩
  have hw := rword_any s
  cases hk : isWord s.data.toList with
  | true =>
    have HF := Lib.hid (show isName s.data.toList = false from name_word _ hk)
    rw [hk] at hw
    have HW := Lib.hid hw
    clear h0 hsz e0 hk hw
    go_enter Tryd.func40, Tryd.ntmps40
    go_wp2_with (go_at_call 63; refine (HW.out _).mono ?_; rintro e w' ⟨rfl, rfl⟩)
    go_ret
    exact ⟨ret_bool HF.out.symm, rfl⟩
  | false =>
    rw [hk] at hw
    have HW := Lib.hid hw
    have HN := Lib.hid (show isName s.data.toList = (s.data.toList.drop 0).all isIn by
      rw [List.drop_zero]
      exact name_all _ _ _ e0 (decide_eq_true (by omega)) (by omega) hk)
    obtain ⟨nm, hnm⟩ : ∃ nm, nm = isName s.data.toList := ⟨_, rfl⟩
    rw [← hnm] at HN ⊢
    clear h0 hsz e0 hk hw hnm
    go_enter Tryd.func40, Tryd.ntmps40
    go_wp2_with (go_at_call 63; refine (HW.out _).mono ?_; rintro e w' ⟨rfl, rfl⟩)
    go_loop [3] (fun i => ∃ k : Nat, k ≤ s.size ∧ Hid (nm = (s.data.toList.drop k).all isIn) ∧ i = .int .i64 k) (fun i => s.size - (intOf i).toNat)
    case atStart => exact ⟨0, by omega, HN, rfl⟩
    case round =>
      obtain ⟨k, hkk, HR, rfl⟩ := hrel
      by_cases hlt : k < s.size
      · have hr := HR.out
        rw [left_at s k hlt, List.all_cons] at hr
        by_cases h95 : s[k].toNat = 95
        · have HS := Lib.hid (show nm = (s.data.toList.drop (k + 1)).all isIn by rw [hr, show isIn s[k] = true by simp [isIn, h95]]; simp)
          have q1 : ((s[k].toNat : Int) == 95) = true := b_yes (by omega)
          have q2 : ((s[k].toNat : Int) != 95) = false := by rw [bne, q1]; rfl
          clear hr HR h95
          go_wp2_with fail
          go_round
          case rel => exact ⟨k + 1, by omega, HS, by go_num⟩
          case measure => simp [intOf]; omega
        have q1 : ((s[k].toNat : Int) == 95) = false := b_no (by omega)
        have q2 : ((s[k].toNat : Int) != 95) = true := by rw [bne, q1]; rfl
        by_cases hL : 97 ≤ s[k].toNat ∧ s[k].toNat ≤ 122
        · have HS := Lib.hid (show nm = (s.data.toList.drop (k + 1)).all isIn by rw [hr, show isIn s[k] = true from letter_in _ (decide_eq_true hL)]; simp)
          obtain ⟨l1, l2⟩ := hL
          clear hr HR h95
          go_wp2_with fail
          go_round
          case rel => exact ⟨k + 1, by omega, HS, by go_num⟩
          case measure => simp [intOf]; omega
        by_cases hD : 48 ≤ s[k].toNat ∧ s[k].toNat ≤ 57
        · have HS := Lib.hid (show nm = (s.data.toList.drop (k + 1)).all isIn by rw [hr, show isIn s[k] = true from digit_in _ (decide_eq_true hD)]; simp)
          obtain ⟨l1, l2⟩ := hD
          clear hr HR h95 hL
          go_wp2_with fail
          go_round
          case rel => exact ⟨k + 1, by omega, HS, by go_num⟩
          case measure => simp [intOf]; omega
        have HS := Lib.hid (show nm = false by rw [hr, show isIn s[k] = false by unfold isIn; rw [show isLetter s[k] = false from decide_eq_false hL, show isDigit s[k] = false from decide_eq_false hD]; simp [h95]]; rfl)
        have h3 : s[k].toNat < 48 ∨ (57 < s[k].toNat ∧ s[k].toNat < 97) ∨ 122 < s[k].toNat := by omega
        clear hr HR h95 hL hD
        rcases h3 with h3 | ⟨h3, h4⟩ | h3
        all_goals
          go_wp2_with fail
          go_ret
          exact ⟨ret_bool (by rw [HS.out]), rfl⟩
      · have hr := HR.out
        rw [left_end s k (by omega)] at hr
        have HS := Lib.hid (show nm = true from hr)
        clear hr HR
        go_wp2_with fail
        go_ret
        exact ⟨ret_bool (by rw [HS.out]), rfl⟩

end Go.Proofs.YtflbplljlkpeiaaDoor
