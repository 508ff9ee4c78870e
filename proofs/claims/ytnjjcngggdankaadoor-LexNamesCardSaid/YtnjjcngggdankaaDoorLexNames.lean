/- Which texts are words and names by the document's own answer, at every text; and that the program tells the same: the statement of words and names, called at any text, answers true and leaves what there was. -/
import Derived.Test.YtnjjcngggdankaaDoorRows
import Derived.Test.YtnjjcngggdankaaDoorLexAlive
import Derived.WalkKit
import Derived.WalkSpells
import Derived.WalkLawsBesides
import Derived.Lib.Hide
namespace Go.Proofs.YtnjjcngggdankaaDoor
open Go.RowKit

set_option maxHeartbeats 400000 in
theorem rword_any (s : ByteArray) (w : World) :
    Calls Tryd.prog 7 #[.string s] w fun e w' => e = .returned (.bool (isWord s.data.toList)) ∧ w = w' := by
  go_enter Tryd.func7, Tryd.ntmps7
  go_wp2
  all_goals first
    | (exfalso; simp_all; done)
    | (go_ret; refine ⟨ret_bool ?_, rfl⟩; rw [← bytes_list]; unfold isWord wordsL; simp only [List.contains_cons, List.contains_nil, *, Bool.true_or, Bool.false_or, Bool.or_true])

theorem name_low (c : UInt8) (h : c.toNat < 97) : isLetter c = false := decide_eq_false (by omega)
theorem name_high (c : UInt8) (h : 122 < c.toNat) : isLetter c = false := decide_eq_false (by omega)
theorem name_all (l : List UInt8) (c : UInt8) (r : List UInt8) (e : l = c :: r) (h : isLetter c = true) (hl : l.length ≤ 16) (hw : isWord l = false) : isName l = l.all isIn := by
  subst e
  unfold isName
  rw [hw, show decide (1 ≤ (c :: r).length ∧ (c :: r).length ≤ 16) = true from decide_eq_true ⟨by simp, hl⟩, List.head?_cons, Option.all_some, h]
  rw [Bool.true_and, Bool.true_and, Bool.not_false, Bool.and_true]

set_option maxHeartbeats 1000000 in
theorem rname_any (s : ByteArray) (w : World) :
    Calls Tryd.prog 9 #[.string s] w fun e w' => e = .returned (.bool (isName s.data.toList)) ∧ w = w' := by
  have hsz := size_of s
  by_cases h0 : s.size = 0
  · have he : s.data.toList = [] := List.eq_nil_of_length_eq_zero (by omega)
    have HF := Lib.hid (show isName s.data.toList = false by rw [he]; rfl)
    have hz : (s.size : Int) < 1 := by omega
    clear h0 hsz he
    go_enter Tryd.func9, Tryd.ntmps9
    go_wp2_with fail
    go_ret
    exact ⟨ret_bool HF.out.symm, rfl⟩
  have hp : 0 < s.size := by omega
  have e0 := left_at s 0 hp
  rw [List.drop_zero] at e0
  by_cases h16 : 16 < s.size
  · have HF := Lib.hid (show isName s.data.toList = false from name_long _ (by omega))
    clear h0 hsz e0
    go_enter Tryd.func9, Tryd.ntmps9
    go_wp2_with fail
    go_ret
    exact ⟨ret_bool HF.out.symm, rfl⟩
  by_cases hlo : (s[0]'hp).toNat < 97
  · have HF := Lib.hid (show isName s.data.toList = false by rw [e0]; exact name_not _ _ (name_low _ hlo))
    clear h0 hsz e0
    go_enter Tryd.func9, Tryd.ntmps9
    go_wp2_with fail
    go_ret
    exact ⟨ret_bool HF.out.symm, rfl⟩
  by_cases hhi : 122 < (s[0]'hp).toNat
  · have HF := Lib.hid (show isName s.data.toList = false by rw [e0]; exact name_not _ _ (name_high _ hhi))
    clear h0 hsz e0
    go_enter Tryd.func9, Tryd.ntmps9
    go_wp2_with fail
    go_ret
    exact ⟨ret_bool HF.out.symm, rfl⟩
  have hw := rword_any s
  cases hk : isWord s.data.toList with
  | true =>
    have HF := Lib.hid (show isName s.data.toList = false from name_word _ hk)
    rw [hk] at hw
    have HW := Lib.hid hw
    clear h0 hsz e0 hk hw
    go_enter Tryd.func9, Tryd.ntmps9
    go_wp2_with (go_at_call 7; refine (HW.out _).mono ?_; rintro e w' ⟨rfl, rfl⟩)
    go_ret
    exact ⟨ret_bool HF.out.symm, rfl⟩
  | false =>
    rw [hk] at hw
    have HW := Lib.hid hw
    have HN := Lib.hid (show isName s.data.toList = (s.data.toList.drop 0).all isIn by
      rw [List.drop_zero]
      exact name_all _ _ _ e0 (decide_eq_true (by omega)) (by omega) hk)
    obtain ⟨nm, hnm⟩ : ∃ nm, nm = isName s.data.toList := ⟨_, rfl⟩
    rw [← hnm] at HN ⊢
    clear h0 hsz e0 hk hw hnm
    go_enter Tryd.func9, Tryd.ntmps9
    go_wp2_with (go_at_call 7; refine (HW.out _).mono ?_; rintro e w' ⟨rfl, rfl⟩)
    go_loop [3] (fun i => ∃ k : Nat, k ≤ s.size ∧ Hid (nm = (s.data.toList.drop k).all isIn) ∧ i = .int .i64 k) (fun i => s.size - (intOf i).toNat)
    case atStart => exact ⟨0, by omega, HN, rfl⟩
    case round =>
      obtain ⟨k, hkk, HR, rfl⟩ := hrel
      by_cases hlt : k < s.size
      · have hr := HR.out
        rw [left_at s k hlt, List.all_cons] at hr
        by_cases h95 : s[k].toNat = 95
        · have HS := Lib.hid (show nm = (s.data.toList.drop (k + 1)).all isIn by rw [hr, show isIn s[k] = true by simp [isIn, h95]]; simp)
          have q1 : ((s[k].toNat : Int) == 95) = true := b_yes (by omega)
          have q2 : ((s[k].toNat : Int) != 95) = false := by rw [bne, q1]; rfl
          clear hr HR h95
          go_wp2_with fail
          go_round
          case rel => exact ⟨k + 1, by omega, HS, by go_num⟩
          case measure => simp [intOf]; omega
        have q1 : ((s[k].toNat : Int) == 95) = false := b_no (by omega)
        have q2 : ((s[k].toNat : Int) != 95) = true := by rw [bne, q1]; rfl
        by_cases hL : 97 ≤ s[k].toNat ∧ s[k].toNat ≤ 122
        · have HS := Lib.hid (show nm = (s.data.toList.drop (k + 1)).all isIn by rw [hr, show isIn s[k] = true from letter_in _ (decide_eq_true hL)]; simp)
          obtain ⟨l1, l2⟩ := hL
          clear hr HR h95
          go_wp2_with fail
          go_round
          case rel => exact ⟨k + 1, by omega, HS, by go_num⟩
          case measure => simp [intOf]; omega
        by_cases hD : 48 ≤ s[k].toNat ∧ s[k].toNat ≤ 57
        · have HS := Lib.hid (show nm = (s.data.toList.drop (k + 1)).all isIn by rw [hr, show isIn s[k] = true from digit_in _ (decide_eq_true hD)]; simp)
          obtain ⟨l1, l2⟩ := hD
          clear hr HR h95 hL
          go_wp2_with fail
          go_round
          case rel => exact ⟨k + 1, by omega, HS, by go_num⟩
          case measure => simp [intOf]; omega
        have HS := Lib.hid (show nm = false by rw [hr, show isIn s[k] = false by unfold isIn; rw [show isLetter s[k] = false from decide_eq_false hL, show isDigit s[k] = false from decide_eq_false hD]; simp [h95]]; rfl)
        have h3 : s[k].toNat < 48 ∨ (57 < s[k].toNat ∧ s[k].toNat < 97) ∨ 122 < s[k].toNat := by omega
        clear hr HR h95 hL hD
        rcases h3 with h3 | ⟨h3, h4⟩ | h3
        all_goals
          go_wp2_with fail
          go_ret
          exact ⟨ret_bool (by rw [HS.out]), rfl⟩
      · have hr := HR.out
        rw [left_end s k (by omega)] at hr
        have HS := Lib.hid (show nm = true from hr)
        clear hr HR
        go_wp2_with fail
        go_ret
        exact ⟨ret_bool (by rw [HS.out]), rfl⟩

set_option maxHeartbeats 400000 in
theorem names_law (s : ByteArray) (hs : s.size ≤ 9223372036854775807) (w : World) (hG : Good w) :
    Calls Tryd.prog 3 #[.string s] w fun e w' => e = .returned (.bool true) ∧ Below w.heap.size w w' := by
  have h1 := word_any s
  have h2 := rword_any s
  have h3 := name_any s hs
  have h4 := rname_any s
  obtain ⟨a, ha⟩ : ∃ a, a = isWord s.data.toList := ⟨_, rfl⟩
  obtain ⟨b, hb⟩ : ∃ b, b = isName s.data.toList := ⟨_, rfl⟩
  rw [← ha] at h1 h2
  rw [← hb] at h3 h4
  have H1 := Lib.hid h1
  have H2 := Lib.hid h2
  have H3 := Lib.hid h3
  have H4 := Lib.hid h4
  clear h1 h2 h3 h4 ha hb
  cases a <;> cases b
  all_goals
    go_enter Tryd.func3, Tryd.ntmps3
    go_wp2_with fail
    refine (H1.out _).mono ?_; rintro e w' ⟨rfl, rfl⟩
    go_wp2_with fail
    refine (H2.out _).mono ?_; rintro e w' ⟨rfl, rfl⟩
    go_wp2_with fail
    refine (H3.out _).mono ?_; rintro e w' ⟨rfl, rfl⟩
    go_wp2_with fail
    refine (H4.out _).mono ?_; rintro e w' ⟨rfl, rfl⟩
    go_wp2_with fail
    refine (alive_any _ hG).mono ?_; rintro e w' ⟨rfl, hb⟩
    go_wp2_with fail
    go_ret
    exact ⟨rfl, hb⟩
end Go.Proofs.YtnjjcngggdankaaDoor
