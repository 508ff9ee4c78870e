/- The token that begins a text by the document's own answer, at every text with a first byte. -/
import Derived.Test.YtnjjcngggdankaaGreatDoorRows
import Derived.Test.YtnjjcngggdankaaGreatDoorLexRefSign
import Derived.WalkKit
import Derived.WalkSpells
import Derived.WalkLawsBesides
import Derived.Lib.Hide
namespace Go.Proofs.YtnjjcngggdankaaGreatDoor
open Go.RowKit

set_option maxHeartbeats 400000 in
theorem rword_is (s : ByteArray) (w : World) :
    Calls Tryz.prog 113 #[.string s] w fun e w' => e = .returned (.bool (isWord s.data.toList)) ∧ w = w' := by
  go_enter Tryz.func113, Tryz.ntmps113
  go_wp2
  all_goals first
    | (exfalso; simp_all; done)
    | (go_ret; refine ⟨ret_bool ?_, rfl⟩; rw [← bytes_list]; unfold isWord wordsL; simp only [List.contains_cons, List.contains_nil, *, Bool.true_or, Bool.false_or, Bool.or_true])

/-- What the document's answer for one token looks like. -/
def OneSays (x : Option Tok) (w : World) (e : Ending) (w' : World) : Prop :=
  Below w.heap.size w w' ∧ match x with
    | none => ∃ K, e = .returned (.agg #[.int .u8 K, .string ⟨#[]⟩, .int .i64 0, .int .i64 0])
    | some t => e = .returned (.agg #[.int .u8 (t.kind : Int), .string ⟨t.text.toArray⟩, .int .i64 t.n, .int .i64 0])
theorem one_no {x : Option Tok} {w w' : World} (K : Int) (h : x = none) (hb : Below w.heap.size w w') : OneSays x w (.returned (.agg #[.int .u8 K, .string ⟨#[]⟩, .int .i64 0, .int .i64 0])) w' := by
  subst h; exact ⟨hb, K, rfl⟩
theorem one_yes {x : Option Tok} {w w' : World} (K n : Int) (s : ByteArray) (t : Tok) (h : x = some t) (hk : (t.kind : Int) = K) (hs : t.text = s.data.toList) (hn : t.n = n) (hb : Below w.heap.size w w') : OneSays x w (.returned (.agg #[.int .u8 K, .string s, .int .i64 n, .int .i64 0])) w' := by
  subst h
  refine ⟨hb, ?_⟩
  simp only
  rw [hs, str_back, hk, hn]

theorem word_not_long (l : List UInt8) (h : 16 < l.length) : isWord l = false := by
  cases hw : isWord l with
  | false => rfl
  | true => have := word_short l hw; omega
theorem one_letter (l : List UInt8) (c : UInt8) (r : List UInt8) (e : l = c :: r) (hc : isLetter c = true) :
    oneTok 0 l = if isWord (l.takeWhile isIn) = true then some ⟨2, l.takeWhile isIn, 0, 0⟩ else if (l.takeWhile isIn).length ≤ 16 then some ⟨1, l.takeWhile isIn, 0, 0⟩ else none := by
  subst e
  unfold oneTok
  simp only
  rw [if_pos hc]
theorem wrap_num (u : Nat) (h : u ≤ 9223372036854775808) : wrap64 (u : Int) = if u = 9223372036854775808 then -9223372036854775808 else (u : Int) := by
  unfold wrap64
  split <;> omega

set_option maxHeartbeats 1000000 in
theorem rone_any (s : ByteArray) (h0 : 0 < s.size) (hs : s.size ≤ 65536) (w : World) :
    Calls Tryz.prog 14 #[.string s] w (OneSays (oneTok 0 s.data.toList) w) := by
  have hB : ∀ (o : Obj), Below w.heap.size w (w.alloc o) := fun o => (Below.refl _ _).alloc (Nat.le_refl _) o
  have HB := Lib.hid hB
  have e0 := left_at s 0 h0
  rw [List.drop_zero] at e0
  have hl := rletter_any (s[0]'h0)
  have hdg := rdigit_any (s[0]'h0)
  have hsz := size_of s
  obtain ⟨x, hx⟩ : ∃ x, x = oneTok 0 s.data.toList := ⟨_, rfl⟩
  rw [← hx]
  cases hc : isLetter (s[0]'h0) with
  | true =>
    have hone := one_letter _ _ _ e0 hc
    rw [← hx] at hone
    rw [hc] at hl
    have hr := rrun_names s (by omega)
    have hwl := while_len isIn s.data.toList
    have hw := rword_is (s.extract 0 (s.data.toList.takeWhile isIn).length)
    have htx := while_take isIn s
    rw [htx] at hw
    obtain ⟨n, hn⟩ : ∃ n, n = (s.data.toList.takeWhile isIn).length := ⟨_, rfl⟩
    have hnw := hn
    rw [← hn] at hr hw hwl htx hone
    have HL := Lib.hid hl
    have HR := Lib.hid hr
    have hle : n ≤ s.size := by omega
    have HZ := Lib.hid (show (s.extract 0 n).size = n by rw [ByteArray.size_extract]; omega)
    by_cases h16 : 16 < n
    · have HF := Lib.hid (show x = none by rw [hone, word_not_long _ (by omega), if_neg (by simp), if_neg (by omega)])
      clear e0 hl hdg hsz hc hone hr hwl hw hn hx htx hnw hB
      go_enter Tryz.func14, Tryz.ntmps14
      go_wp2_with fail
      refine (HL.out _).mono ?_; rintro e w' ⟨rfl, rfl⟩
      go_wp2_with fail
      refine (HR.out _).mono ?_; rintro e w' ⟨rfl, rfl⟩
      have hz := HZ.out
      go_wp2_with fail
      exact bodyPost_ret (v := .agg #[.int .u8 0, .string ⟨#[]⟩, .int .i64 0, .int .i64 0]) (by simp [results, Tryz.results14, go_sem]) rfl (one_no 0 HF.out (HB.out _))
    · cases hk : isWord (s.data.toList.takeWhile isIn) with
      | true =>
        have HF := Lib.hid (show x = some ⟨2, s.data.toList.takeWhile isIn, 0, 0⟩ by rw [hone, hk, if_pos rfl])
        rw [hk] at hw
        have HW := Lib.hid hw
        have HT := Lib.hid htx
        clear e0 hl hdg hsz hc hone hr hwl hw hn hx htx hnw hk hB
        go_enter Tryz.func14, Tryz.ntmps14
        go_wp2_with fail
        refine (HL.out _).mono ?_; rintro e w' ⟨rfl, rfl⟩
        go_wp2_with fail
        refine (HR.out _).mono ?_; rintro e w' ⟨rfl, rfl⟩
        have hz := HZ.out
        go_wp2_with fail
        refine (HW.out _).mono ?_; rintro e w' ⟨rfl, rfl⟩
        go_wp2_with fail
        exact bodyPost_ret (v := .agg #[.int .u8 2, .string (s.extract 0 n), .int .i64 0, .int .i64 0]) (by simp [results, Tryz.results14, go_sem]) rfl (one_yes 2 0 _ _ HF.out rfl HT.out.symm rfl (HB.out _))
      | false =>
        have HF := Lib.hid (show x = some ⟨1, s.data.toList.takeWhile isIn, 0, 0⟩ by rw [hone, hk, if_neg (by simp), if_pos (by omega)])
        rw [hk] at hw
        have HW := Lib.hid hw
        have HT := Lib.hid htx
        clear e0 hl hdg hsz hc hone hr hwl hw hn hx htx hnw hk hB
        go_enter Tryz.func14, Tryz.ntmps14
        go_wp2_with fail
        refine (HL.out _).mono ?_; rintro e w' ⟨rfl, rfl⟩
        go_wp2_with fail
        refine (HR.out _).mono ?_; rintro e w' ⟨rfl, rfl⟩
        have hz := HZ.out
        go_wp2_with fail
        refine (HW.out _).mono ?_; rintro e w' ⟨rfl, rfl⟩
        go_wp2_with fail
        exact bodyPost_ret (v := .agg #[.int .u8 1, .string (s.extract 0 n), .int .i64 0, .int .i64 0]) (by simp [results, Tryz.results14, go_sem]) rfl (one_yes 1 0 _ _ HF.out rfl HT.out.symm rfl (HB.out _))
  | false =>
    rw [hc] at hl
    cases hd : isDigit (s[0]'h0) with
    | true =>
      have hone := one_number _ _ _ e0 hc hd
      rw [← hx] at hone
      rw [hd] at hdg
      have hr := rrun_digits s (by omega)
      have hwl := while_len isDigit s.data.toList
      have htx := while_take isDigit s
      obtain ⟨n, hn⟩ : ∃ n, n = (s.data.toList.takeWhile isDigit).length := ⟨_, rfl⟩
      rw [← hn] at hr hwl htx
      have HL := Lib.hid hl
      have HD := Lib.hid hdg
      have HR := Lib.hid hr
      have hle : n ≤ s.size := by omega
      unfold numT numOf at hone
      rw [← htx] at hone
      cases hdd : digitsN 9223372036854775808 (s.extract 0 n).data.toList with
      | none =>
        have HF := Lib.hid (show x = none by rw [hone, hdd]; rfl)
        have HG := Lib.hid (fun w => digits_none (s.extract 0 n) 9223372036854775808 9223372036854775808 (by omega) (by omega) (by omega) hdd w)
        clear e0 hl hdg hsz hc hone hr hwl hn hx htx hd hdd hB
        go_enter Tryz.func14, Tryz.ntmps14
        go_wp2_with fail
        refine (HL.out _).mono ?_; rintro e w' ⟨rfl, rfl⟩
        go_wp2_with fail
        refine (HD.out _).mono ?_; rintro e w' ⟨rfl, rfl⟩
        go_wp2_with fail
        refine (HR.out _).mono ?_; rintro e w' ⟨rfl, rfl⟩
        go_wp2_with fail
        refine (HG.out _).mono ?_; rintro e w' ⟨rfl, rfl⟩
        go_wp2_with fail
        exact bodyPost_ret (v := .agg #[.int .u8 0, .string ⟨#[]⟩, .int .i64 0, .int .i64 0]) (by simp [results, Tryz.results14, go_sem]) rfl (one_no 0 HF.out (HB.out _))
      | some u =>
        have hu := ((digitsN_some _ (by omega) (by omega) _ u).1 hdd).2
        have HF := Lib.hid (show x = some ⟨3, (s.extract 0 n).data.toList, wrap64 (u : Int), 0⟩ by rw [hone, hdd, wrap_num u hu]; rfl)
        have HG := Lib.hid (fun w => digits_some (s.extract 0 n) 9223372036854775808 9223372036854775808 u (by omega) (by omega) (by omega) hdd w)
        clear e0 hl hdg hsz hc hone hr hwl hn hx htx hd hdd hu hB
        go_enter Tryz.func14, Tryz.ntmps14
        go_wp2_with fail
        refine (HL.out _).mono ?_; rintro e w' ⟨rfl, rfl⟩
        go_wp2_with fail
        refine (HD.out _).mono ?_; rintro e w' ⟨rfl, rfl⟩
        go_wp2_with fail
        refine (HR.out _).mono ?_; rintro e w' ⟨rfl, rfl⟩
        go_wp2_with fail
        refine (HG.out _).mono ?_; rintro e w' ⟨rfl, rfl⟩
        go_wp2_with fail
        exact bodyPost_ret (v := .agg #[.int .u8 3, .string (s.extract 0 n), .int .i64 (wrap64 (u : Int)), .int .i64 0]) (by simp [results, Tryz.results14, go_sem]) rfl (one_yes 3 _ _ _ HF.out rfl rfl rfl (HB.out _))
    | false =>
      have hone := one_sign _ _ _ e0 hc hd
      rw [← hx] at hone
      rw [hd] at hdg
      have hsg := rsign_any s h0
      have hsl := (sign_le s.data.toList).1
      obtain ⟨k, hk⟩ : ∃ k, k = signLen s.data.toList := ⟨_, rfl⟩
      rw [← hk] at hsg hone hsl
      have hkl : k ≤ s.size := by omega
      have HL := Lib.hid hl
      have HD := Lib.hid hdg
      have HS := Lib.hid hsg
      by_cases hz : k = 0
      · subst hz
        have HF := Lib.hid (show x = none by rw [hone, if_pos rfl])
        have HS0 : Hid (∀ w, Calls Tryz.prog 116 #[.string s] w fun e w' => e = .returned (.int .i64 0) ∧ Below w.heap.size w w') := Lib.hid hsg
        have HE := Lib.hid (show s.extract 0 0 = ⟨#[]⟩ from (by apply ByteArray.ext; simp))
        clear e0 hl hdg hsz hc hone hsg hsl hk hx hd hkl HS hB
        go_enter Tryz.func14, Tryz.ntmps14
        go_wp2_with fail
        refine (HL.out _).mono ?_; rintro e w' ⟨rfl, rfl⟩
        go_wp2_with fail
        refine (HD.out _).mono ?_; rintro e w' ⟨rfl, rfl⟩
        go_wp2_with fail
        refine (HS0.out _).mono ?_; rintro e w1 ⟨rfl, hb1⟩
        obtain ⟨hcc, hff⟩ := old_block hb1 w.heap.size (by simp)
        go_wp2_with fail
        have hbb := below_four (below_alloc hb1) (p := ⟨w.heap.size, 0, none⟩) (q := ⟨w.heap.size, 1, none⟩) (r := ⟨w.heap.size, 2, none⟩) (t := ⟨w.heap.size, 3, none⟩) (Nat.le_refl _) (Nat.le_refl _) (Nat.le_refl _) (Nat.le_refl _) (.int .u8 4) (.string (s.extract 0 0)) (.int .i64 0) (.int .i64 0)
        exact bodyPost_ret (v := .agg #[.int .u8 4, .string (s.extract 0 0), .int .i64 0, .int .i64 0]) (by simp [results, Tryz.results14, go_sem, hcc]) rfl (by rw [HE.out] at hbb ⊢; exact one_no 4 HF.out hbb)
      · have HF := Lib.hid (show x = some ⟨4, s.data.toList.take k, 0, 0⟩ by rw [hone, if_neg hz])
        clear e0 hl hdg hsz hc hone hsg hsl hk hx hd hz hB
        go_enter Tryz.func14, Tryz.ntmps14
        go_wp2_with fail
        refine (HL.out _).mono ?_; rintro e w' ⟨rfl, rfl⟩
        go_wp2_with fail
        refine (HD.out _).mono ?_; rintro e w' ⟨rfl, rfl⟩
        go_wp2_with fail
        refine (HS.out _).mono ?_; rintro e w1 ⟨rfl, hb1⟩
        obtain ⟨hcc, hff⟩ := old_block hb1 w.heap.size (by simp)
        go_wp2_with fail
        exact bodyPost_ret (v := .agg #[.int .u8 4, .string (s.extract 0 k), .int .i64 0, .int .i64 0]) (by simp [results, Tryz.results14, go_sem, hcc]) rfl (one_yes 4 0 _ _ HF.out rfl (head_to s k).symm rfl (below_four (below_alloc hb1) (Nat.le_refl _) (Nat.le_refl _) (Nat.le_refl _) (Nat.le_refl _) _ _ _ _))
end Go.Proofs.YtnjjcngggdankaaGreatDoor
