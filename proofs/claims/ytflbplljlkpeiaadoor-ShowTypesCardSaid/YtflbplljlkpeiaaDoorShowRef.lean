/- What the document's own answers come to for types: what is wrong with a type's form, a type's text. -/
import Derived.Test.YtflbplljlkpeiaaDoorRows
import Derived.Test.YtflbplljlkpeiaaDoorShowTop
import Derived.Test.YtflbplljlkpeiaaDoorWordRead
import Derived.Lib.Strings
import Derived.WalkKit
import Derived.WalkSpells
import Derived.WalkLawsBesides
import Derived.Lib.Hide
namespace Go.Proofs.YtflbplljlkpeiaaDoor
open Go.RowKit

theorem size_neg (n : Int) (h0 : -9223372036854775808 ≤ n) (h : n < 0) : IntKind.u64.wrap (-IntKind.u64.wrap n) = (n.natAbs : Int) := by
  rw [IntKind.wrap_u64, IntKind.wrap_u64]; omega
theorem one_byte (wr : World) (k : Int) (c : UInt8) (h : k = (c.toNat : Int)) :
    (convert 81 9 (.slice (some ⟨wr.heap.size, 0, none⟩) 1 1)).run Tryd.prog (wr.alloc (.cells #[.int .u8 k] 5)) = .ok (.string ⟨#[c]⟩) (wr.alloc (.cells #[.int .u8 k] 5)) := by
  subst h
  exact run_convert_bytes_back (P := Tryd.prog) (wr.alloc (.cells #[.int .u8 (c.toNat : Int)] 5)) 81 9 5 ⟨wr.heap.size, 0, none⟩ 1 [c] Tryd.underlying81 Tryd.underlying5 Tryd.underlying9 (fun j hj => by
    have : j = 0 := by simp at hj; omega
    subst this
    go_simp)
theorem byte_ahead (c : UInt8) (l : List UInt8) : (⟨#[c]⟩ : ByteArray) ++ ⟨l.toArray⟩ = ⟨(c :: l).toArray⟩ := by
  apply ByteArray.ext
  simp
theorem string_same {a b : ByteArray} (h : a = b) : Ending.returned (.string a) = Ending.returned (.string b) := by rw [h]

set_option maxRecDepth 100000 in
set_option maxHeartbeats 400000 in
theorem great_nat (n : Nat) (h : n < 18446744073709551616) (w : World) :
    Calls Tryd.prog 64 #[.int .u64 n] w fun e w' => e = .returned (.string ⟨(Lib.decDigits n).toArray⟩) ∧ Below w.heap.size w w' := by
  go_enter Tryd.func64, Tryd.ntmps64
  go_wp2
  go_loopw [0, 3] (fun x t wr => ∃ (u : Nat) (l : List UInt8), u ≤ n ∧ Lib.decDigits u ++ l = Lib.decDigits n ∧ x = .int .u64 u ∧ t = .string ⟨l.toArray⟩ ∧ Below w.heap.size w wr) (fun x _ _ => (intOf x).toNat)
  case atStart => exact ⟨n, [], Nat.le_refl _, List.append_nil _, rfl, rfl, Below.refl _ _⟩
  case round =>
    obtain ⟨u, l, hu, hl, rfl, rfl, hb⟩ := hrel
    have hlen : l.length ≤ 20 := by
      have e := congrArg List.length hl
      rw [List.length_append, Lib.decDigits_length n] at e
      have := few_digits 19 n (by omega)
      omega
    by_cases h9 : u < 10
    · have hk := fun c (hc : (48 + (u : Int)) = (UInt8.toNat c : Int)) => one_byte wr (48 + (u : Int)) c hc
      obtain ⟨c, hc, he⟩ : ∃ c : UInt8, 48 + (u : Int) = (c.toNat : Int) ∧ c :: l = Lib.decDigits n :=
        ⟨UInt8.ofNat (48 + u), by rw [digit_nat u h9]; omega, by rw [← hl, decDigits_small u h9]; rfl⟩
      have hk1 := hk c hc
      have He := Lib.hid he
      clear hk hc he hl
      go_wp2
      go_ret
      exact ⟨string_same (by rw [byte_ahead, He.out]), hb.alloc hb.size _⟩
    · obtain ⟨c, hc, he⟩ : ∃ c : UInt8, 48 + (u : Int) % 10 = (c.toNat : Int) ∧ Lib.decDigits (u / 10) ++ c :: l = Lib.decDigits n :=
        ⟨UInt8.ofNat (48 + u % 10), by rw [digit_nat (u % 10) (by omega)]; omega, by rw [← hl, decDigits_big u h9, List.append_assoc]; rfl⟩
      have hk1 := one_byte wr (48 + (u : Int) % 10) c hc
      have He := Lib.hid he
      clear hc he hl
      go_wp2
      go_roundw
      case rel => exact ⟨u / 10, c :: l, by omega, He.out, by go_num, by rw [byte_ahead], hb.alloc hb.size _⟩
      case measure => simp [intOf]; omega

theorem great_is (x : Int) (u : Nat) (hx : x = (u : Int)) (h : u < 18446744073709551616) (w : World) :
    Calls Tryd.prog 64 #[.int .u64 x] w fun e w' => e = .returned (.string ⟨(Lib.decDigits u).toArray⟩) ∧ Below w.heap.size w w' := by
  subst hx; exact great_nat u h w

set_option maxHeartbeats 400000 in
theorem rtext_any (n : Int) (h0 : -9223372036854775808 ≤ n) (h1 : n ≤ 9223372036854775807) (w : World) :
    Calls Tryd.prog 41 #[.int .i64 n] w fun e w' => e = .returned (.string ⟨(Lib.itoa n).toArray⟩) ∧ Below w.heap.size w w' := by
  by_cases hn : n < 0
  · have Hg := Lib.hid (great_is (IntKind.u64.wrap (-IntKind.u64.wrap n)) n.natAbs (size_neg n h0 hn) (by omega))
    have hl : (Lib.decDigits n.natAbs).length ≤ 20 := by rw [Lib.decDigits_length]; exact few_digits 19 _ (by omega)
    have He := Lib.hid (show Lib.itoa n = 45 :: Lib.decDigits n.natAbs by unfold Lib.itoa; rw [if_pos hn])
    go_enter Tryd.func41, Tryd.ntmps41
    go_wp2_with (go_at_call 64; refine (Hg.out _).mono ?_; rintro e w' ⟨rfl, hb⟩)
    go_ret
    exact ⟨string_same (by rw [byte_ahead, He.out]), hb⟩
  · have Hg := Lib.hid (great_is n n.toNat (by omega) (by omega))
    have He := Lib.hid (show Lib.itoa n = Lib.decDigits n.toNat by unfold Lib.itoa; rw [if_neg hn])
    go_enter Tryd.func41, Tryd.ntmps41
    go_wp2_with (go_at_call 64; refine (Hg.out _).mono ?_; rintro e w' ⟨rfl, hb⟩)
    go_ret
    exact ⟨string_same (by rw [He.out]), hb⟩

/-- The answer of the document's Digits. -/
def dres : Option Nat → Value
  | none => .tuple #[.int .u64 0, .bool false]
  | some u => .tuple #[.int .u64 (u : Int), .bool true]

set_option maxHeartbeats 400000 in
theorem rt_int_ok (tk tz : Int) (tn : ByteArray) (hk : tk = 1) (he : tn.data.toList = []) (hz : tz = 0) (w : World) :
    Calls Tryd.prog 20 #[.agg #[.int .u8 tk, .string tn, .int .i64 tz]] w fun e w' => e = .returned (.int .i64 (tyForm tk tn.data.toList tz)) ∧ Below w.heap.size w w' := by
  have HF := Lib.hid (show tyForm tk tn.data.toList tz = 0 by simp [tyForm, hk, he, hz])
  have t1 := emp_yes he
  have t2 := nil_yes he
  clear he
  subst hk hz
  go_enter Tryd.func20, Tryd.ntmps20
  go_wp2_with fail
  go_ret
  exact ⟨ret_int HF.out.symm, below_box _ _⟩

set_option maxHeartbeats 400000 in
theorem rt_int_n (tk tz : Int) (tn : ByteArray) (hk : tk = 1) (he : tn.data.toList = []) (hz : ¬ tz = 0) (w : World) :
    Calls Tryd.prog 20 #[.agg #[.int .u8 tk, .string tn, .int .i64 tz]] w fun e w' => e = .returned (.int .i64 (tyForm tk tn.data.toList tz)) ∧ Below w.heap.size w w' := by
  have HF := Lib.hid (show tyForm tk tn.data.toList tz = 1 by simp [tyForm, hk, he, hz])
  have t1 := emp_yes he
  have t2 := nil_yes he
  have z1 : (tz == 0) = false := beq_eq_false_iff_ne.2 hz
  clear he hz
  subst hk
  go_enter Tryd.func20, Tryd.ntmps20
  go_wp2_with fail
  go_ret
  exact ⟨ret_int HF.out.symm, below_box _ _⟩

set_option maxHeartbeats 400000 in
theorem rt_int_name (tk tz : Int) (tn : ByteArray) (hk : tk = 1) (he : ¬ tn.data.toList = []) (w : World) :
    Calls Tryd.prog 20 #[.agg #[.int .u8 tk, .string tn, .int .i64 tz]] w fun e w' => e = .returned (.int .i64 (tyForm tk tn.data.toList tz)) ∧ Below w.heap.size w w' := by
  have HF := Lib.hid (show tyForm tk tn.data.toList tz = 1 by simp [tyForm, hk, he])
  have t1 := emp_no he
  clear he
  subst hk
  go_enter Tryd.func20, Tryd.ntmps20
  go_wp2_with fail
  go_ret
  exact ⟨ret_int HF.out.symm, below_box _ _⟩

set_option maxHeartbeats 400000 in
theorem rt_ref_ok (tk tz : Int) (tn : ByteArray) (hk : tk = 2) (hn : isName tn.data.toList = true) (hz : tz = 0) (w : World) :
    Calls Tryd.prog 20 #[.agg #[.int .u8 tk, .string tn, .int .i64 tz]] w fun e w' => e = .returned (.int .i64 (tyForm tk tn.data.toList tz)) ∧ Below w.heap.size w w' := by
  have HF := Lib.hid (show tyForm tk tn.data.toList tz = 0 by simp [tyForm, hk, hn, hz])
  have hn' := rname_any tn
  rw [hn] at hn'
  have HN := Lib.hid hn'
  clear hn' hn
  subst hk hz
  go_enter Tryd.func20, Tryd.ntmps20
  go_wp2_with (go_at_call 40; refine (HN.out _).mono ?_; rintro e w' ⟨rfl, rfl⟩)
  go_ret
  exact ⟨ret_int HF.out.symm, below_box _ _⟩

set_option maxHeartbeats 400000 in
theorem rt_ref_n (tk tz : Int) (tn : ByteArray) (hk : tk = 2) (hn : isName tn.data.toList = true) (hz : ¬ tz = 0) (w : World) :
    Calls Tryd.prog 20 #[.agg #[.int .u8 tk, .string tn, .int .i64 tz]] w fun e w' => e = .returned (.int .i64 (tyForm tk tn.data.toList tz)) ∧ Below w.heap.size w w' := by
  have HF := Lib.hid (show tyForm tk tn.data.toList tz = 1 by simp [tyForm, hk, hn, hz])
  have hn' := rname_any tn
  rw [hn] at hn'
  have HN := Lib.hid hn'
  clear hn' hn
  have z1 : (tz == 0) = false := beq_eq_false_iff_ne.2 hz
  clear hz
  subst hk
  go_enter Tryd.func20, Tryd.ntmps20
  go_wp2_with (go_at_call 40; refine (HN.out _).mono ?_; rintro e w' ⟨rfl, rfl⟩)
  go_ret
  exact ⟨ret_int HF.out.symm, below_box _ _⟩

set_option maxHeartbeats 400000 in
theorem rt_ref_name (tk tz : Int) (tn : ByteArray) (hk : tk = 2) (hn : isName tn.data.toList = false) (w : World) :
    Calls Tryd.prog 20 #[.agg #[.int .u8 tk, .string tn, .int .i64 tz]] w fun e w' => e = .returned (.int .i64 (tyForm tk tn.data.toList tz)) ∧ Below w.heap.size w w' := by
  have HF := Lib.hid (show tyForm tk tn.data.toList tz = 1 by simp [tyForm, hk, hn])
  have hn' := rname_any tn
  rw [hn] at hn'
  have HN := Lib.hid hn'
  clear hn' hn
  subst hk
  go_enter Tryd.func20, Tryd.ntmps20
  go_wp2_with (go_at_call 40; refine (HN.out _).mono ?_; rintro e w' ⟨rfl, rfl⟩)
  go_ret
  exact ⟨ret_int HF.out.symm, below_box _ _⟩

set_option maxHeartbeats 400000 in
theorem rt_arr_ok_e (tk tz : Int) (tn : ByteArray) (hk : tk = 3) (he : tn.data.toList = []) (h0 : 0 < tz) (h1 : tz ≤ 64) (w : World) :
    Calls Tryd.prog 20 #[.agg #[.int .u8 tk, .string tn, .int .i64 tz]] w fun e w' => e = .returned (.int .i64 (tyForm tk tn.data.toList tz)) ∧ Below w.heap.size w w' := by
  have HF := Lib.hid (show tyForm tk tn.data.toList tz = 0 by simp [tyForm, hk, he, h0]; omega)
  have d0 : decide (tz < 1) = false := decide_eq_false (by omega)
  have d1 : decide (64 < tz) = false := decide_eq_false (by omega)
  have t1 := emp_yes he
  have t2 := nil_yes he
  clear he
  subst hk
  go_enter Tryd.func20, Tryd.ntmps20
  go_wp2_with fail
  go_ret
  exact ⟨ret_int HF.out.symm, below_box _ _⟩

set_option maxHeartbeats 400000 in
theorem rt_arr_big_e (tk tz : Int) (tn : ByteArray) (hk : tk = 3) (he : tn.data.toList = []) (h1 : 64 < tz) (w : World) :
    Calls Tryd.prog 20 #[.agg #[.int .u8 tk, .string tn, .int .i64 tz]] w fun e w' => e = .returned (.int .i64 (tyForm tk tn.data.toList tz)) ∧ Below w.heap.size w w' := by
  have h0 : 0 < tz := by omega
  have HF := Lib.hid (show tyForm tk tn.data.toList tz = 3 by simp [tyForm, hk, he, h0, h1])
  have d0 : decide (tz < 1) = false := decide_eq_false (by omega)
  have t1 := emp_yes he
  have t2 := nil_yes he
  clear he
  subst hk
  go_enter Tryd.func20, Tryd.ntmps20
  go_wp2_with fail
  go_ret
  exact ⟨ret_int HF.out.symm, below_box _ _⟩

set_option maxHeartbeats 400000 in
theorem rt_arr_n_e (tk tz : Int) (tn : ByteArray) (hk : tk = 3) (he : tn.data.toList = []) (h0 : tz ≤ 0) (w : World) :
    Calls Tryd.prog 20 #[.agg #[.int .u8 tk, .string tn, .int .i64 tz]] w fun e w' => e = .returned (.int .i64 (tyForm tk tn.data.toList tz)) ∧ Below w.heap.size w w' := by
  have d0 : decide (tz < 1) = true := decide_eq_true (by omega)
  have HF := Lib.hid (show tyForm tk tn.data.toList tz = 1 by simp [tyForm, hk, he]; omega)
  have t1 := emp_yes he
  have t2 := nil_yes he
  clear he
  subst hk
  go_enter Tryd.func20, Tryd.ntmps20
  go_wp2_with fail
  go_ret
  exact ⟨ret_int HF.out.symm, below_box _ _⟩

set_option maxHeartbeats 400000 in
theorem rt_arr_ok_n (tk tz : Int) (tn : ByteArray) (hk : tk = 3) (he : ¬ tn.data.toList = []) (hn : isName tn.data.toList = true) (h0 : 0 < tz) (h1 : tz ≤ 64) (w : World) :
    Calls Tryd.prog 20 #[.agg #[.int .u8 tk, .string tn, .int .i64 tz]] w fun e w' => e = .returned (.int .i64 (tyForm tk tn.data.toList tz)) ∧ Below w.heap.size w w' := by
  have HF := Lib.hid (show tyForm tk tn.data.toList tz = 0 by simp [tyForm, hk, he, hn, h0]; omega)
  have d0 : decide (tz < 1) = false := decide_eq_false (by omega)
  have d1 : decide (64 < tz) = false := decide_eq_false (by omega)
  have t1 := emp_no he
  have hn' := rname_any tn
  rw [hn] at hn'
  have HN := Lib.hid hn'
  clear hn' hn
  clear he
  subst hk
  go_enter Tryd.func20, Tryd.ntmps20
  go_wp2_with (go_at_call 40; refine (HN.out _).mono ?_; rintro e w' ⟨rfl, rfl⟩)
  go_ret
  exact ⟨ret_int HF.out.symm, below_box _ _⟩

set_option maxHeartbeats 400000 in
theorem rt_arr_big_n (tk tz : Int) (tn : ByteArray) (hk : tk = 3) (he : ¬ tn.data.toList = []) (hn : isName tn.data.toList = true) (h1 : 64 < tz) (w : World) :
    Calls Tryd.prog 20 #[.agg #[.int .u8 tk, .string tn, .int .i64 tz]] w fun e w' => e = .returned (.int .i64 (tyForm tk tn.data.toList tz)) ∧ Below w.heap.size w w' := by
  have h0 : 0 < tz := by omega
  have HF := Lib.hid (show tyForm tk tn.data.toList tz = 3 by simp [tyForm, hk, he, hn, h0, h1])
  have d0 : decide (tz < 1) = false := decide_eq_false (by omega)
  have t1 := emp_no he
  have hn' := rname_any tn
  rw [hn] at hn'
  have HN := Lib.hid hn'
  clear hn' hn
  clear he
  subst hk
  go_enter Tryd.func20, Tryd.ntmps20
  go_wp2_with (go_at_call 40; refine (HN.out _).mono ?_; rintro e w' ⟨rfl, rfl⟩)
  go_ret
  exact ⟨ret_int HF.out.symm, below_box _ _⟩

set_option maxHeartbeats 400000 in
theorem rt_arr_n_n (tk tz : Int) (tn : ByteArray) (hk : tk = 3) (he : ¬ tn.data.toList = []) (hn : isName tn.data.toList = true) (h0 : tz ≤ 0) (w : World) :
    Calls Tryd.prog 20 #[.agg #[.int .u8 tk, .string tn, .int .i64 tz]] w fun e w' => e = .returned (.int .i64 (tyForm tk tn.data.toList tz)) ∧ Below w.heap.size w w' := by
  have d0 : decide (tz < 1) = true := decide_eq_true (by omega)
  have HF := Lib.hid (show tyForm tk tn.data.toList tz = 1 by simp [tyForm, hk, he, hn]; omega)
  have t1 := emp_no he
  have hn' := rname_any tn
  rw [hn] at hn'
  have HN := Lib.hid hn'
  clear hn' hn
  clear he
  subst hk
  go_enter Tryd.func20, Tryd.ntmps20
  go_wp2_with (go_at_call 40; refine (HN.out _).mono ?_; rintro e w' ⟨rfl, rfl⟩)
  go_ret
  exact ⟨ret_int HF.out.symm, below_box _ _⟩

set_option maxHeartbeats 400000 in
theorem rt_arr_name (tk tz : Int) (tn : ByteArray) (hk : tk = 3) (he : ¬ tn.data.toList = []) (hn : isName tn.data.toList = false) (w : World) :
    Calls Tryd.prog 20 #[.agg #[.int .u8 tk, .string tn, .int .i64 tz]] w fun e w' => e = .returned (.int .i64 (tyForm tk tn.data.toList tz)) ∧ Below w.heap.size w w' := by
  have HF := Lib.hid (show tyForm tk tn.data.toList tz = 1 by simp [tyForm, hk, he, hn])
  have t1 := emp_no he
  have hn' := rname_any tn
  rw [hn] at hn'
  have HN := Lib.hid hn'
  clear hn' hn
  clear he
  subst hk
  go_enter Tryd.func20, Tryd.ntmps20
  go_wp2_with (go_at_call 40; refine (HN.out _).mono ?_; rintro e w' ⟨rfl, rfl⟩)
  go_ret
  exact ⟨ret_int HF.out.symm, below_box _ _⟩

set_option maxHeartbeats 400000 in
theorem rt_none (tk tz : Int) (tn : ByteArray) (h1 : ¬ tk = 1) (h2 : ¬ tk = 2) (h3 : ¬ tk = 3) (w : World) :
    Calls Tryd.prog 20 #[.agg #[.int .u8 tk, .string tn, .int .i64 tz]] w fun e w' => e = .returned (.int .i64 (tyForm tk tn.data.toList tz)) ∧ Below w.heap.size w w' := by
  have HF := Lib.hid (show tyForm tk tn.data.toList tz = 1 by simp [tyForm, h1, h2, h3])
  have q1 : (tk == 1) = false := beq_eq_false_iff_ne.2 h1
  have q2 : (tk == 2) = false := beq_eq_false_iff_ne.2 h2
  have q3 : (tk == 3) = false := beq_eq_false_iff_ne.2 h3
  clear h1 h2 h3
  go_enter Tryd.func20, Tryd.ntmps20
  go_wp2_with fail
  go_ret
  exact ⟨ret_int HF.out.symm, below_box _ _⟩

theorem rform_any (tk tz : Int) (tn : ByteArray) (w : World) :
    Calls Tryd.prog 20 #[.agg #[.int .u8 tk, .string tn, .int .i64 tz]] w fun e w' => e = .returned (.int .i64 (tyForm tk tn.data.toList tz)) ∧ Below w.heap.size w w' := by
  by_cases h1 : tk = 1
  · by_cases he : tn.data.toList = []
    · by_cases hz : tz = 0
      · exact rt_int_ok tk tz tn h1 he hz w
      · exact rt_int_n tk tz tn h1 he hz w
    · exact rt_int_name tk tz tn h1 he w
  by_cases h2 : tk = 2
  · cases hn : isName tn.data.toList with
    | true =>
      by_cases hz : tz = 0
      · exact rt_ref_ok tk tz tn h2 hn hz w
      · exact rt_ref_n tk tz tn h2 hn hz w
    | false => exact rt_ref_name tk tz tn h2 hn w
  by_cases h3 : tk = 3
  · by_cases he : tn.data.toList = []
    · by_cases h0 : 0 < tz
      · by_cases hb : tz ≤ 64
        · exact rt_arr_ok_e tk tz tn h3 he h0 hb w
        · exact rt_arr_big_e tk tz tn h3 he (by omega) w
      · exact rt_arr_n_e tk tz tn h3 he (by omega) w
    · cases hn : isName tn.data.toList with
      | true =>
        by_cases h0 : 0 < tz
        · by_cases hb : tz ≤ 64
          · exact rt_arr_ok_n tk tz tn h3 he hn h0 hb w
          · exact rt_arr_big_n tk tz tn h3 he hn (by omega) w
        · exact rt_arr_n_n tk tz tn h3 he hn (by omega) w
      | false => exact rt_arr_name tk tz tn h3 he hn w
  · exact rt_none tk tz tn h1 h2 h3 w

theorem bytes_of (a b : List UInt8) : (⟨a.toArray⟩ : ByteArray) ++ ⟨b.toArray⟩ = ⟨(a ++ b).toArray⟩ := by
  apply ByteArray.ext
  simp
theorem bytes_own (s : ByteArray) : s = ⟨s.data.toList.toArray⟩ := by cases s; simp

set_option maxHeartbeats 400000 in
theorem rttext_any (tk tz : Int) (tn : ByteArray) (hz0 : -9223372036854775808 ≤ tz) (hz1 : tz ≤ 9223372036854775807) (hs : tn.size ≤ 1000) (w : World) :
    Calls Tryd.prog 21 #[.agg #[.int .u8 tk, .string tn, .int .i64 tz]] w fun e w' => e = .returned (.string ⟨(tyText tk tn.data.toList tz).toArray⟩) ∧ Below w.heap.size w w' := by
  have HT := Lib.hid (rtext_any tz hz0 hz1 (w.alloc (.cells #[.int .u8 tk, .string tn, .int .i64 tz] 24)))
  have HB := Lib.hid (below_box w (.cells #[.int .u8 tk, .string tn, .int .i64 tz] 24))
  have hil := itoa_len tz hz0 hz1
  have hiz : (⟨(Lib.itoa tz).toArray⟩ : ByteArray).size ≤ 20 := by show (Lib.itoa tz).toArray.size ≤ 20; simp; exact hil
  by_cases he : tn.data.toList = []
  · have t1 := emp_yes he
    have t2 := nil_yes he
    by_cases hk : tk = 3
    · have HF := Lib.hid (show (⟨#[91]⟩ : ByteArray) ++ ⟨(Lib.itoa tz).toArray⟩ ++ ⟨#[93]⟩ ++ ⟨#[105, 110, 116]⟩ = ⟨(tyText tk tn.data.toList tz).toArray⟩ by
        apply ByteArray.ext
        simp [tyText, hk, he])
      have k3 : (tk == 3) = true := beq_iff_eq.2 hk
      subst hk
      clear he hz0 hz1
      go_enter Tryd.func21, Tryd.ntmps21
      go_wp2_with (go_at_call 41; refine HT.out.mono ?_; rintro e w' ⟨rfl, hb⟩)
      go_ret
      exact ⟨string_same HF.out, HB.out.trans (hb.mono (by simp))⟩
    · have HF := Lib.hid (show (⟨#[105, 110, 116]⟩ : ByteArray) = ⟨(tyText tk tn.data.toList tz).toArray⟩ by
        apply ByteArray.ext
        simp [tyText, hk, he])
      have k3 : (tk == 3) = false := beq_eq_false_iff_ne.2 hk
      clear he hil hz0 hz1 hk
      go_enter Tryd.func21, Tryd.ntmps21
      go_wp2_with fail
      go_ret
      exact ⟨string_same HF.out, HB.out⟩
  · have t1 := emp_no he
    by_cases hk : tk = 3
    · have HF := Lib.hid (show (⟨#[91]⟩ : ByteArray) ++ ⟨(Lib.itoa tz).toArray⟩ ++ ⟨#[93]⟩ ++ tn = ⟨(tyText tk tn.data.toList tz).toArray⟩ by
        apply ByteArray.ext
        simp [tyText, hk, he])
      have k3 : (tk == 3) = true := beq_iff_eq.2 hk
      subst hk
      clear he hz0 hz1
      go_enter Tryd.func21, Tryd.ntmps21
      go_wp2_with (go_at_call 41; refine HT.out.mono ?_; rintro e w' ⟨rfl, hb⟩)
      go_ret
      exact ⟨string_same HF.out, HB.out.trans (hb.mono (by simp))⟩
    · have HF := Lib.hid (show tn = ⟨(tyText tk tn.data.toList tz).toArray⟩ by
        apply ByteArray.ext
        simp [tyText, hk, he])
      have k3 : (tk == 3) = false := beq_eq_false_iff_ne.2 hk
      clear he hil hz0 hz1 hk
      go_enter Tryd.func21, Tryd.ntmps21
      go_wp2_with fail
      go_ret
      exact ⟨string_same HF.out, HB.out⟩

set_option maxHeartbeats 400000 in
theorem rtype_no (tk tz : Int) (tn : ByteArray) (r : Int) (hr : tyForm tk tn.data.toList tz = r) (hr0 : ¬ r = 0) (w : World) :
    Calls Tryd.prog 6 #[.agg #[.int .u8 tk, .string tn, .int .i64 tz]] w (Fails r w) := by
  have hF := rform_any tk tz tn (w.alloc (.cells #[.int .u8 tk, .string tn, .int .i64 tz] 24))
  rw [hr] at hF
  have HF := Lib.hid hF
  have HB := Lib.hid (below_box w (.cells #[.int .u8 tk, .string tn, .int .i64 tz] 24))
  have hn : (r == 0) = false := beq_eq_false_iff_ne.2 hr0
  have hn2 : (r != 0) = true := by rw [bne, hn]; rfl
  clear hF hr hr0
  go_enter Tryd.func6, Tryd.ntmps6
  go_wp2_with (go_at_call 20; refine HF.out.mono ?_; rintro e w2 ⟨rfl, hb2⟩)
  go_ret2
  exact ⟨rfl, HB.out.trans (hb2.mono (by simp))⟩
set_option maxHeartbeats 400000 in
theorem rtype_yes (tk tz : Int) (tn : ByteArray) (hr : tyForm tk tn.data.toList tz = 0) (w : World) :
    Calls Tryd.prog 6 #[.agg #[.int .u8 tk, .string tn, .int .i64 tz]] w (Tells (tyText tk tn.data.toList tz) w) := by
  have hF := rform_any tk tz tn (w.alloc (.cells #[.int .u8 tk, .string tn, .int .i64 tz] 24))
  rw [hr] at hF
  obtain ⟨ht1, ht2, ht3⟩ := tyForm_name hr
  rw [size_of] at ht1
  have HF := Lib.hid hF
  have HT := Lib.hid (rttext_any tk tz tn (by omega) (by omega) (by omega))
  have HB := Lib.hid (below_box w (.cells #[.int .u8 tk, .string tn, .int .i64 tz] 24))
  have HO := Lib.hid (MapKept.heap_alloc w (.cells #[.int .u8 tk, .string tn, .int .i64 tz] 24)).1
  clear hF hr
  go_enter Tryd.func6, Tryd.ntmps6
  go_wp2_with fail
  refine HF.out.mono ?_; rintro e w2 ⟨rfl, hb2⟩
  have hs2 := hb2.size
  simp at hs2
  obtain ⟨q0, q1, q2⟩ := own3 ((hb2.block _ (by simp)).trans HO.out)
  have HB2 := Lib.hid (HB.out.trans (hb2.mono (by simp)))
  clear hb2
  go_wp2_with (go_at_call 21; refine (HT.out _).mono ?_; rintro e w3 ⟨rfl, hb3⟩)
  go_ret2
  exact ⟨rfl, HB2.out.trans (hb3.mono (by omega))⟩
end Go.Proofs.YtflbplljlkpeiaaDoor
