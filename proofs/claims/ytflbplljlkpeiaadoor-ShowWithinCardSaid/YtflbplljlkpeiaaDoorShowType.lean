/- What is asked of a type's form by the show layer, at every type: it gives up by the error that the document names, or ends. -/
import Derived.Test.YtflbplljlkpeiaaDoorRows
import Derived.Test.YtflbplljlkpeiaaDoorShowLow
import Derived.Test.YtflbplljlkpeiaaDoorShowName
import Derived.Test.YtflbplljlkpeiaaDoorShowTree
import Derived.WalkKit
import Derived.WalkSpells
import Derived.WalkLawsBesides
import Derived.Lib.Hide
namespace Go.Proofs.YtflbplljlkpeiaaDoor
open Go.RowKit

theorem emp_yes {s : ByteArray} (h : s.data.toList = []) : s.toList.isEmpty = true := by rw [bytes_list, h]; rfl
theorem emp_no {s : ByteArray} (h : ¬ s.data.toList = []) : s.toList.isEmpty = false := by rw [bytes_list]; simpa using h
theorem nil_yes {s : ByteArray} (h : s.data.toList = []) : s.toList = [] := by rw [bytes_list, h]
theorem below_box (w : World) (o : Obj) : Below w.heap.size w (w.alloc o) := (Below.refl _ _).alloc (Nat.le_refl _) o

/-- What a walk that may give up by r leaves: the ending, and what there was. -/
def Ends (r : Int) (w : World) (e : Ending) (w' : World) : Prop := e = ended r ∧ Below w.heap.size w w'
theorem Ends.ok {r : Int} {w w' : World} (h : r = 0) (hb : Below w.heap.size w w') : Ends r w (.returned (.tuple #[])) w' := ⟨(ended_ok h).symm, hb⟩
theorem Ends.arg {r : Int} {w w' : World} (h : r = 1) (hb : Below w.heap.size w w') : Ends r w (.panicked (fl 1)) w' := by subst h; exact ⟨rfl, hb⟩
theorem Ends.limit {r : Int} {w w' : World} (h : r = 3) (hb : Below w.heap.size w w') : Ends r w (.panicked (fl 3)) w' := by subst h; exact ⟨rfl, hb⟩

set_option maxHeartbeats 400000 in
theorem ct_int_ok (tk tz : Int) (tn : ByteArray) (hk : tk = 1) (he : tn.data.toList = []) (hz : tz = 0) (w : World) :
    Calls Tryd.prog 16 #[.agg #[.int .u8 tk, .string tn, .int .i64 tz]] w (Ends (tyForm tk tn.data.toList tz) w) := by
  have HF := Lib.hid (show tyForm tk tn.data.toList tz = 0 by simp [tyForm, hk, he, hz])
  have t1 := emp_yes he
  have t2 := nil_yes he
  clear he
  subst hk hz
  go_enter Tryd.func16, Tryd.ntmps16
  go_wp2_with (first | (go_at_call 32; ((with_reducible refine (must_yes _).mono ?_); rintro e w' ⟨rfl, rfl⟩)) | (go_at_call 32; ((with_reducible refine (must_no _).mono ?_); rintro e w' ⟨rfl, rfl⟩)) | (go_at_call 34; ((with_reducible refine (most_yes _ _ (by omega) _).mono ?_); rintro e w' ⟨rfl, rfl⟩)) | (go_at_call 34; ((with_reducible refine (most_no _ _ (by omega) _).mono ?_); rintro e w' ⟨rfl, rfl⟩)))
  go_end0
  exact Ends.ok HF.out (below_box _ _)

set_option maxHeartbeats 400000 in
theorem ct_int_n (tk tz : Int) (tn : ByteArray) (hk : tk = 1) (he : tn.data.toList = []) (hz : ¬ tz = 0) (w : World) :
    Calls Tryd.prog 16 #[.agg #[.int .u8 tk, .string tn, .int .i64 tz]] w (Ends (tyForm tk tn.data.toList tz) w) := by
  have HF := Lib.hid (show tyForm tk tn.data.toList tz = 1 by simp [tyForm, hk, he, hz])
  have t1 := emp_yes he
  have t2 := nil_yes he
  have z1 : (tz == 0) = false := beq_eq_false_iff_ne.2 hz
  clear he hz
  subst hk
  go_enter Tryd.func16, Tryd.ntmps16
  go_wp2_with (first | (go_at_call 32; ((with_reducible refine (must_yes _).mono ?_); rintro e w' ⟨rfl, rfl⟩)) | (go_at_call 32; ((with_reducible refine (must_no _).mono ?_); rintro e w' ⟨rfl, rfl⟩)) | (go_at_call 34; ((with_reducible refine (most_yes _ _ (by omega) _).mono ?_); rintro e w' ⟨rfl, rfl⟩)) | (go_at_call 34; ((with_reducible refine (most_no _ _ (by omega) _).mono ?_); rintro e w' ⟨rfl, rfl⟩)))
  exact ⟨rfl, Ends.arg HF.out (below_box _ _)⟩

set_option maxHeartbeats 400000 in
theorem ct_int_name (tk tz : Int) (tn : ByteArray) (hk : tk = 1) (he : ¬ tn.data.toList = []) (w : World) :
    Calls Tryd.prog 16 #[.agg #[.int .u8 tk, .string tn, .int .i64 tz]] w (Ends (tyForm tk tn.data.toList tz) w) := by
  have HF := Lib.hid (show tyForm tk tn.data.toList tz = 1 by simp [tyForm, hk, he])
  have t1 := emp_no he
  clear he
  subst hk
  go_enter Tryd.func16, Tryd.ntmps16
  go_wp2_with (first | (go_at_call 32; ((with_reducible refine (must_yes _).mono ?_); rintro e w' ⟨rfl, rfl⟩)) | (go_at_call 32; ((with_reducible refine (must_no _).mono ?_); rintro e w' ⟨rfl, rfl⟩)) | (go_at_call 34; ((with_reducible refine (most_yes _ _ (by omega) _).mono ?_); rintro e w' ⟨rfl, rfl⟩)) | (go_at_call 34; ((with_reducible refine (most_no _ _ (by omega) _).mono ?_); rintro e w' ⟨rfl, rfl⟩)))
  exact ⟨rfl, Ends.arg HF.out (below_box _ _)⟩

set_option maxHeartbeats 400000 in
theorem ct_ref_ok (tk tz : Int) (tn : ByteArray) (hs : tn.size ≤ 9223372036854775807) (hk : tk = 2) (hn : isName tn.data.toList = true) (hz : tz = 0) (w : World) :
    Calls Tryd.prog 16 #[.agg #[.int .u8 tk, .string tn, .int .i64 tz]] w (Ends (tyForm tk tn.data.toList tz) w) := by
  have HF := Lib.hid (show tyForm tk tn.data.toList tz = 0 by simp [tyForm, hk, hn, hz])
  have hn' := name_any tn hs
  rw [hn] at hn'
  have HN := Lib.hid hn'
  clear hn' hn
  subst hk hz
  go_enter Tryd.func16, Tryd.ntmps16
  go_wp2_with (first | (go_at_call 33; refine (HN.out _).mono ?_; rintro e w' ⟨rfl, rfl⟩) | (go_at_call 32; ((with_reducible refine (must_yes _).mono ?_); rintro e w' ⟨rfl, rfl⟩)) | (go_at_call 32; ((with_reducible refine (must_no _).mono ?_); rintro e w' ⟨rfl, rfl⟩)) | (go_at_call 34; ((with_reducible refine (most_yes _ _ (by omega) _).mono ?_); rintro e w' ⟨rfl, rfl⟩)) | (go_at_call 34; ((with_reducible refine (most_no _ _ (by omega) _).mono ?_); rintro e w' ⟨rfl, rfl⟩)))
  go_end0
  exact Ends.ok HF.out (below_box _ _)

set_option maxHeartbeats 400000 in
theorem ct_ref_n (tk tz : Int) (tn : ByteArray) (hs : tn.size ≤ 9223372036854775807) (hk : tk = 2) (hn : isName tn.data.toList = true) (hz : ¬ tz = 0) (w : World) :
    Calls Tryd.prog 16 #[.agg #[.int .u8 tk, .string tn, .int .i64 tz]] w (Ends (tyForm tk tn.data.toList tz) w) := by
  have HF := Lib.hid (show tyForm tk tn.data.toList tz = 1 by simp [tyForm, hk, hn, hz])
  have hn' := name_any tn hs
  rw [hn] at hn'
  have HN := Lib.hid hn'
  clear hn' hn
  have z1 : (tz == 0) = false := beq_eq_false_iff_ne.2 hz
  clear hz
  subst hk
  go_enter Tryd.func16, Tryd.ntmps16
  go_wp2_with (first | (go_at_call 33; refine (HN.out _).mono ?_; rintro e w' ⟨rfl, rfl⟩) | (go_at_call 32; ((with_reducible refine (must_yes _).mono ?_); rintro e w' ⟨rfl, rfl⟩)) | (go_at_call 32; ((with_reducible refine (must_no _).mono ?_); rintro e w' ⟨rfl, rfl⟩)) | (go_at_call 34; ((with_reducible refine (most_yes _ _ (by omega) _).mono ?_); rintro e w' ⟨rfl, rfl⟩)) | (go_at_call 34; ((with_reducible refine (most_no _ _ (by omega) _).mono ?_); rintro e w' ⟨rfl, rfl⟩)))
  exact ⟨rfl, Ends.arg HF.out (below_box _ _)⟩

set_option maxHeartbeats 400000 in
theorem ct_ref_name (tk tz : Int) (tn : ByteArray) (hs : tn.size ≤ 9223372036854775807) (hk : tk = 2) (hn : isName tn.data.toList = false) (w : World) :
    Calls Tryd.prog 16 #[.agg #[.int .u8 tk, .string tn, .int .i64 tz]] w (Ends (tyForm tk tn.data.toList tz) w) := by
  have HF := Lib.hid (show tyForm tk tn.data.toList tz = 1 by simp [tyForm, hk, hn])
  have hn' := name_any tn hs
  rw [hn] at hn'
  have HN := Lib.hid hn'
  clear hn' hn
  subst hk
  go_enter Tryd.func16, Tryd.ntmps16
  go_wp2_with (first | (go_at_call 33; refine (HN.out _).mono ?_; rintro e w' ⟨rfl, rfl⟩) | (go_at_call 32; ((with_reducible refine (must_yes _).mono ?_); rintro e w' ⟨rfl, rfl⟩)) | (go_at_call 32; ((with_reducible refine (must_no _).mono ?_); rintro e w' ⟨rfl, rfl⟩)) | (go_at_call 34; ((with_reducible refine (most_yes _ _ (by omega) _).mono ?_); rintro e w' ⟨rfl, rfl⟩)) | (go_at_call 34; ((with_reducible refine (most_no _ _ (by omega) _).mono ?_); rintro e w' ⟨rfl, rfl⟩)))
  exact ⟨rfl, Ends.arg HF.out (below_box _ _)⟩

set_option maxHeartbeats 400000 in
theorem ct_arr_ok_e (tk tz : Int) (tn : ByteArray) (hk : tk = 3) (he : tn.data.toList = []) (h0 : 0 < tz) (h1 : tz ≤ 64) (w : World) :
    Calls Tryd.prog 16 #[.agg #[.int .u8 tk, .string tn, .int .i64 tz]] w (Ends (tyForm tk tn.data.toList tz) w) := by
  have HF := Lib.hid (show tyForm tk tn.data.toList tz = 0 by simp [tyForm, hk, he, h0]; omega)
  have t1 := emp_yes he
  have t2 := nil_yes he
  clear he
  subst hk
  go_enter Tryd.func16, Tryd.ntmps16
  go_wp2_with (first | (go_at_call 32; ((with_reducible refine (must_yes _).mono ?_); rintro e w' ⟨rfl, rfl⟩)) | (go_at_call 32; ((with_reducible refine (must_no _).mono ?_); rintro e w' ⟨rfl, rfl⟩)) | (go_at_call 34; ((with_reducible refine (most_yes _ _ (by omega) _).mono ?_); rintro e w' ⟨rfl, rfl⟩)) | (go_at_call 34; ((with_reducible refine (most_no _ _ (by omega) _).mono ?_); rintro e w' ⟨rfl, rfl⟩)))
  go_end0
  exact Ends.ok HF.out (below_box _ _)

set_option maxHeartbeats 400000 in
theorem ct_arr_big_e (tk tz : Int) (tn : ByteArray) (hk : tk = 3) (he : tn.data.toList = []) (h1 : 64 < tz) (w : World) :
    Calls Tryd.prog 16 #[.agg #[.int .u8 tk, .string tn, .int .i64 tz]] w (Ends (tyForm tk tn.data.toList tz) w) := by
  have h0 : 0 < tz := by omega
  have HF := Lib.hid (show tyForm tk tn.data.toList tz = 3 by simp [tyForm, hk, he, h0, h1])
  have t1 := emp_yes he
  have t2 := nil_yes he
  clear he
  subst hk
  go_enter Tryd.func16, Tryd.ntmps16
  go_wp2_with (first | (go_at_call 32; ((with_reducible refine (must_yes _).mono ?_); rintro e w' ⟨rfl, rfl⟩)) | (go_at_call 32; ((with_reducible refine (must_no _).mono ?_); rintro e w' ⟨rfl, rfl⟩)) | (go_at_call 34; ((with_reducible refine (most_yes _ _ (by omega) _).mono ?_); rintro e w' ⟨rfl, rfl⟩)) | (go_at_call 34; ((with_reducible refine (most_no _ _ (by omega) _).mono ?_); rintro e w' ⟨rfl, rfl⟩)))
  exact ⟨rfl, Ends.limit HF.out (below_box _ _)⟩

set_option maxHeartbeats 400000 in
theorem ct_arr_n_e (tk tz : Int) (tn : ByteArray) (hk : tk = 3) (he : tn.data.toList = []) (h0 : tz ≤ 0) (w : World) :
    Calls Tryd.prog 16 #[.agg #[.int .u8 tk, .string tn, .int .i64 tz]] w (Ends (tyForm tk tn.data.toList tz) w) := by
  have d0 : decide (0 < tz) = false := decide_eq_false (by omega)
  have HF := Lib.hid (show tyForm tk tn.data.toList tz = 1 by simp [tyForm, hk, he]; omega)
  have t1 := emp_yes he
  have t2 := nil_yes he
  clear he
  subst hk
  go_enter Tryd.func16, Tryd.ntmps16
  go_wp2_with (first | (go_at_call 32; ((with_reducible refine (must_yes _).mono ?_); rintro e w' ⟨rfl, rfl⟩)) | (go_at_call 32; ((with_reducible refine (must_no _).mono ?_); rintro e w' ⟨rfl, rfl⟩)) | (go_at_call 34; ((with_reducible refine (most_yes _ _ (by omega) _).mono ?_); rintro e w' ⟨rfl, rfl⟩)) | (go_at_call 34; ((with_reducible refine (most_no _ _ (by omega) _).mono ?_); rintro e w' ⟨rfl, rfl⟩)))
  exact ⟨rfl, Ends.arg HF.out (below_box _ _)⟩

set_option maxHeartbeats 400000 in
theorem ct_arr_ok_n (tk tz : Int) (tn : ByteArray) (hs : tn.size ≤ 9223372036854775807) (hk : tk = 3) (he : ¬ tn.data.toList = []) (hn : isName tn.data.toList = true) (h0 : 0 < tz) (h1 : tz ≤ 64) (w : World) :
    Calls Tryd.prog 16 #[.agg #[.int .u8 tk, .string tn, .int .i64 tz]] w (Ends (tyForm tk tn.data.toList tz) w) := by
  have HF := Lib.hid (show tyForm tk tn.data.toList tz = 0 by simp [tyForm, hk, he, hn, h0]; omega)
  have t1 := emp_no he
  have hn' := name_any tn hs
  rw [hn] at hn'
  have HN := Lib.hid hn'
  clear hn' hn
  clear he
  subst hk
  go_enter Tryd.func16, Tryd.ntmps16
  go_wp2_with (first | (go_at_call 33; refine (HN.out _).mono ?_; rintro e w' ⟨rfl, rfl⟩) | (go_at_call 32; ((with_reducible refine (must_yes _).mono ?_); rintro e w' ⟨rfl, rfl⟩)) | (go_at_call 32; ((with_reducible refine (must_no _).mono ?_); rintro e w' ⟨rfl, rfl⟩)) | (go_at_call 34; ((with_reducible refine (most_yes _ _ (by omega) _).mono ?_); rintro e w' ⟨rfl, rfl⟩)) | (go_at_call 34; ((with_reducible refine (most_no _ _ (by omega) _).mono ?_); rintro e w' ⟨rfl, rfl⟩)))
  go_end0
  exact Ends.ok HF.out (below_box _ _)

set_option maxHeartbeats 400000 in
theorem ct_arr_big_n (tk tz : Int) (tn : ByteArray) (hs : tn.size ≤ 9223372036854775807) (hk : tk = 3) (he : ¬ tn.data.toList = []) (hn : isName tn.data.toList = true) (h1 : 64 < tz) (w : World) :
    Calls Tryd.prog 16 #[.agg #[.int .u8 tk, .string tn, .int .i64 tz]] w (Ends (tyForm tk tn.data.toList tz) w) := by
  have h0 : 0 < tz := by omega
  have HF := Lib.hid (show tyForm tk tn.data.toList tz = 3 by simp [tyForm, hk, he, hn, h0, h1])
  have t1 := emp_no he
  have hn' := name_any tn hs
  rw [hn] at hn'
  have HN := Lib.hid hn'
  clear hn' hn
  clear he
  subst hk
  go_enter Tryd.func16, Tryd.ntmps16
  go_wp2_with (first | (go_at_call 33; refine (HN.out _).mono ?_; rintro e w' ⟨rfl, rfl⟩) | (go_at_call 32; ((with_reducible refine (must_yes _).mono ?_); rintro e w' ⟨rfl, rfl⟩)) | (go_at_call 32; ((with_reducible refine (must_no _).mono ?_); rintro e w' ⟨rfl, rfl⟩)) | (go_at_call 34; ((with_reducible refine (most_yes _ _ (by omega) _).mono ?_); rintro e w' ⟨rfl, rfl⟩)) | (go_at_call 34; ((with_reducible refine (most_no _ _ (by omega) _).mono ?_); rintro e w' ⟨rfl, rfl⟩)))
  exact ⟨rfl, Ends.limit HF.out (below_box _ _)⟩

set_option maxHeartbeats 400000 in
theorem ct_arr_n_n (tk tz : Int) (tn : ByteArray) (hs : tn.size ≤ 9223372036854775807) (hk : tk = 3) (he : ¬ tn.data.toList = []) (hn : isName tn.data.toList = true) (h0 : tz ≤ 0) (w : World) :
    Calls Tryd.prog 16 #[.agg #[.int .u8 tk, .string tn, .int .i64 tz]] w (Ends (tyForm tk tn.data.toList tz) w) := by
  have d0 : decide (0 < tz) = false := decide_eq_false (by omega)
  have HF := Lib.hid (show tyForm tk tn.data.toList tz = 1 by simp [tyForm, hk, he, hn]; omega)
  have t1 := emp_no he
  have hn' := name_any tn hs
  rw [hn] at hn'
  have HN := Lib.hid hn'
  clear hn' hn
  clear he
  subst hk
  go_enter Tryd.func16, Tryd.ntmps16
  go_wp2_with (first | (go_at_call 33; refine (HN.out _).mono ?_; rintro e w' ⟨rfl, rfl⟩) | (go_at_call 32; ((with_reducible refine (must_yes _).mono ?_); rintro e w' ⟨rfl, rfl⟩)) | (go_at_call 32; ((with_reducible refine (must_no _).mono ?_); rintro e w' ⟨rfl, rfl⟩)) | (go_at_call 34; ((with_reducible refine (most_yes _ _ (by omega) _).mono ?_); rintro e w' ⟨rfl, rfl⟩)) | (go_at_call 34; ((with_reducible refine (most_no _ _ (by omega) _).mono ?_); rintro e w' ⟨rfl, rfl⟩)))
  exact ⟨rfl, Ends.arg HF.out (below_box _ _)⟩

set_option maxHeartbeats 400000 in
theorem ct_arr_name (tk tz : Int) (tn : ByteArray) (hs : tn.size ≤ 9223372036854775807) (hk : tk = 3) (he : ¬ tn.data.toList = []) (hn : isName tn.data.toList = false) (w : World) :
    Calls Tryd.prog 16 #[.agg #[.int .u8 tk, .string tn, .int .i64 tz]] w (Ends (tyForm tk tn.data.toList tz) w) := by
  have HF := Lib.hid (show tyForm tk tn.data.toList tz = 1 by simp [tyForm, hk, he, hn])
  have t1 := emp_no he
  have hn' := name_any tn hs
  rw [hn] at hn'
  have HN := Lib.hid hn'
  clear hn' hn
  clear he
  subst hk
  go_enter Tryd.func16, Tryd.ntmps16
  go_wp2_with (first | (go_at_call 33; refine (HN.out _).mono ?_; rintro e w' ⟨rfl, rfl⟩) | (go_at_call 32; ((with_reducible refine (must_yes _).mono ?_); rintro e w' ⟨rfl, rfl⟩)) | (go_at_call 32; ((with_reducible refine (must_no _).mono ?_); rintro e w' ⟨rfl, rfl⟩)) | (go_at_call 34; ((with_reducible refine (most_yes _ _ (by omega) _).mono ?_); rintro e w' ⟨rfl, rfl⟩)) | (go_at_call 34; ((with_reducible refine (most_no _ _ (by omega) _).mono ?_); rintro e w' ⟨rfl, rfl⟩)))
  exact ⟨rfl, Ends.arg HF.out (below_box _ _)⟩

set_option maxHeartbeats 400000 in
theorem ct_none (tk tz : Int) (tn : ByteArray) (h1 : ¬ tk = 1) (h2 : ¬ tk = 2) (h3 : ¬ tk = 3) (w : World) :
    Calls Tryd.prog 16 #[.agg #[.int .u8 tk, .string tn, .int .i64 tz]] w (Ends (tyForm tk tn.data.toList tz) w) := by
  have HF := Lib.hid (show tyForm tk tn.data.toList tz = 1 by simp [tyForm, h1, h2, h3])
  have q1 : (tk == 1) = false := beq_eq_false_iff_ne.2 h1
  have q2 : (tk == 2) = false := beq_eq_false_iff_ne.2 h2
  have q3 : (tk == 3) = false := beq_eq_false_iff_ne.2 h3
  clear h1 h2 h3
  go_enter Tryd.func16, Tryd.ntmps16
  go_wp2_with (first | (go_at_call 32; ((with_reducible refine (must_yes _).mono ?_); rintro e w' ⟨rfl, rfl⟩)) | (go_at_call 32; ((with_reducible refine (must_no _).mono ?_); rintro e w' ⟨rfl, rfl⟩)) | (go_at_call 34; ((with_reducible refine (most_yes _ _ (by omega) _).mono ?_); rintro e w' ⟨rfl, rfl⟩)) | (go_at_call 34; ((with_reducible refine (most_no _ _ (by omega) _).mono ?_); rintro e w' ⟨rfl, rfl⟩)))
  exact ⟨rfl, Ends.arg HF.out (below_box _ _)⟩

theorem ctype_any (tk tz : Int) (tn : ByteArray) (hs : tn.size ≤ 9223372036854775807) (w : World) :
    Calls Tryd.prog 16 #[.agg #[.int .u8 tk, .string tn, .int .i64 tz]] w (Ends (tyForm tk tn.data.toList tz) w) := by
  by_cases h1 : tk = 1
  · by_cases he : tn.data.toList = []
    · by_cases hz : tz = 0
      · exact ct_int_ok tk tz tn h1 he hz w
      · exact ct_int_n tk tz tn h1 he hz w
    · exact ct_int_name tk tz tn h1 he w
  by_cases h2 : tk = 2
  · cases hn : isName tn.data.toList with
    | true =>
      by_cases hz : tz = 0
      · exact ct_ref_ok tk tz tn hs h2 hn hz w
      · exact ct_ref_n tk tz tn hs h2 hn hz w
    | false => exact ct_ref_name tk tz tn hs h2 hn w
  by_cases h3 : tk = 3
  · by_cases he : tn.data.toList = []
    · by_cases h0 : 0 < tz
      · by_cases hb : tz ≤ 64
        · exact ct_arr_ok_e tk tz tn h3 he h0 hb w
        · exact ct_arr_big_e tk tz tn h3 he (by omega) w
      · exact ct_arr_n_e tk tz tn h3 he (by omega) w
    · cases hn : isName tn.data.toList with
      | true =>
        by_cases h0 : 0 < tz
        · by_cases hb : tz ≤ 64
          · exact ct_arr_ok_n tk tz tn hs h3 he hn h0 hb w
          · exact ct_arr_big_n tk tz tn hs h3 he hn (by omega) w
        · exact ct_arr_n_n tk tz tn hs h3 he hn (by omega) w
      | false => exact ct_arr_name tk tz tn hs h3 he hn w
  · exact ct_none tk tz tn h1 h2 h3 w
end Go.Proofs.YtflbplljlkpeiaaDoor
