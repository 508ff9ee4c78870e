/- What is asked of a type's form by the show layer, at every type: it gives up by the error that the document names, or ends. -/
import Derived.Test.YtdhieihcmnpneaaGreatDoorRows
import Derived.Test.YtdhieihcmnpneaaGreatDoorGMem0
import Derived.Test.YtdhieihcmnpneaaGreatDoorGPlain
import Derived.Deep.MidRow
import Derived.Deep.WholeRow
namespace Go.Proofs.YtdhieihcmnpneaaGreatDoor
open Lib (hid)
set_option maxHeartbeats 400000
open Go.RowKit
theorem emp_yes {s:ByteArray} (h:s.data.toList = []):s.toList.isEmpty=true:=by rw [bytes_list,h];rfl
theorem emp_no {s:ByteArray} (h:¬ s.data.toList = []):s.toList.isEmpty=false:=by rw [bytes_list];simpa using h
theorem nil_yes {s:ByteArray} (h:s.data.toList = []):s.toList = []:=by rw [bytes_list,h]
def Ends (r:Int) (w:World) (e:Ending) (w':World):Prop:=e=ended r∧Below w.heap.size w w'
theorem Ends.ok {r:Int} {w w':World} (h:r=0) (hb:Below w.heap.size w w'):Ends r w (.returned (.tuple #[])) w':=⟨(ended_ok h).symm,hb⟩
theorem Ends.arg {r:Int} {w w':World} (h:r=1) (hb:Below w.heap.size w w'):Ends r w (.panicked (fl 1)) w':=by subst h;exact⟨rfl,hb⟩
theorem Ends.limit {r:Int} {w w':World} (h:r=3) (hb:Below w.heap.size w w'):Ends r w (.panicked (fl 3)) w':=by subst h;exact⟨rfl,hb⟩
theorem ct_int_ok (tk tz:Int) (tn:ByteArray) (hk:tk=1) (he:tn.data.toList = []) (hz:tz=0) (w:World) :
    Calls Tryz.prog 94 #[.agg #[.int .u8 tk,.string tn,.int .i64 tz]] w (Ends (tyForm tk tn.data.toList tz) w):=by
  have HF:=hid (show tyForm tk tn.data.toList tz=0 by simp [tyForm,hk,he,hz])
  have t1:=emp_yes he
  have t2:=nil_yes he
  clear he
  subst hk hz
  go_enter Tryz.func94,Tryz.ntmps94
  go_wp2_with (first|(go_at_call 75;((with_reducible refine (must_yes _).mono ?_);rintro e w' ⟨rfl,rfl⟩))|(go_at_call 75;((with_reducible refine (must_no _).mono ?_);rintro e w' ⟨rfl,rfl⟩))|(go_at_call 74;((with_reducible refine (most_yes _ _ (by omega) _).mono ?_);rintro e w' ⟨rfl,rfl⟩))|(go_at_call 74;((with_reducible refine (most_no _ _ (by omega) _).mono ?_);rintro e w' ⟨rfl,rfl⟩)))
  go_end0
  exact Ends.ok HF.out (below_box _ _)
theorem ct_int_n (tk tz:Int) (tn:ByteArray) (hk:tk=1) (he:tn.data.toList = []) (hz:¬ tz=0) (w:World) :
    Calls Tryz.prog 94 #[.agg #[.int .u8 tk,.string tn,.int .i64 tz]] w (Ends (tyForm tk tn.data.toList tz) w):=by
  have HF:=hid (show tyForm tk tn.data.toList tz=1 by simp [tyForm,hk,he,hz])
  have t1:=emp_yes he
  have t2:=nil_yes he
  have z1:(tz == 0)=false:=beq_eq_false_iff_ne.2 hz
  clear he hz
  subst hk
  go_enter Tryz.func94,Tryz.ntmps94
  go_wp2_with (first|(go_at_call 75;((with_reducible refine (must_yes _).mono ?_);rintro e w' ⟨rfl,rfl⟩))|(go_at_call 75;((with_reducible refine (must_no _).mono ?_);rintro e w' ⟨rfl,rfl⟩))|(go_at_call 74;((with_reducible refine (most_yes _ _ (by omega) _).mono ?_);rintro e w' ⟨rfl,rfl⟩))|(go_at_call 74;((with_reducible refine (most_no _ _ (by omega) _).mono ?_);rintro e w' ⟨rfl,rfl⟩)))
  exact⟨rfl,Ends.arg HF.out (below_box _ _)⟩
theorem ct_int_name (tk tz:Int) (tn:ByteArray) (hk:tk=1) (he:¬ tn.data.toList = []) (w:World) :
    Calls Tryz.prog 94 #[.agg #[.int .u8 tk,.string tn,.int .i64 tz]] w (Ends (tyForm tk tn.data.toList tz) w):=by
  have HF:=hid (show tyForm tk tn.data.toList tz=1 by simp [tyForm,hk,he])
  have t1:=emp_no he
  clear he
  subst hk
  go_enter Tryz.func94,Tryz.ntmps94
  go_wp2_with (first|(go_at_call 75;((with_reducible refine (must_yes _).mono ?_);rintro e w' ⟨rfl,rfl⟩))|(go_at_call 75;((with_reducible refine (must_no _).mono ?_);rintro e w' ⟨rfl,rfl⟩))|(go_at_call 74;((with_reducible refine (most_yes _ _ (by omega) _).mono ?_);rintro e w' ⟨rfl,rfl⟩))|(go_at_call 74;((with_reducible refine (most_no _ _ (by omega) _).mono ?_);rintro e w' ⟨rfl,rfl⟩)))
  exact⟨rfl,Ends.arg HF.out (below_box _ _)⟩
theorem ct_ref_ok (tk tz:Int) (tn:ByteArray) (hs:tn.size≤9223372036854775807) (hk:tk=2) (hn:isName tn.data.toList=true) (hz:tz=0) (w:World) :
    Calls Tryz.prog 94 #[.agg #[.int .u8 tk,.string tn,.int .i64 tz]] w (Ends (tyForm tk tn.data.toList tz) w):=by
  have HF:=hid (show tyForm tk tn.data.toList tz=0 by simp [tyForm,hk,hn,hz])
  have hn':=name_any tn hs
  rw [hn] at hn'
  have HN:=hid hn'
  clear hn' hn
  subst hk hz
  go_enter Tryz.func94,Tryz.ntmps94
  go_wp2_with (first|(go_at_call 76;refine (HN.out _).mono ?_;rintro e w' ⟨rfl,rfl⟩)|(go_at_call 75;((with_reducible refine (must_yes _).mono ?_);rintro e w' ⟨rfl,rfl⟩))|(go_at_call 75;((with_reducible refine (must_no _).mono ?_);rintro e w' ⟨rfl,rfl⟩))|(go_at_call 74;((with_reducible refine (most_yes _ _ (by omega) _).mono ?_);rintro e w' ⟨rfl,rfl⟩))|(go_at_call 74;((with_reducible refine (most_no _ _ (by omega) _).mono ?_);rintro e w' ⟨rfl,rfl⟩)))
  go_end0
  exact Ends.ok HF.out (below_box _ _)
theorem ct_ref_n (tk tz:Int) (tn:ByteArray) (hs:tn.size≤9223372036854775807) (hk:tk=2) (hn:isName tn.data.toList=true) (hz:¬ tz=0) (w:World) :
    Calls Tryz.prog 94 #[.agg #[.int .u8 tk,.string tn,.int .i64 tz]] w (Ends (tyForm tk tn.data.toList tz) w):=by
  have HF:=hid (show tyForm tk tn.data.toList tz=1 by simp [tyForm,hk,hn,hz])
  have hn':=name_any tn hs
  rw [hn] at hn'
  have HN:=hid hn'
  clear hn' hn
  have z1:(tz == 0)=false:=beq_eq_false_iff_ne.2 hz
  clear hz
  subst hk
  go_enter Tryz.func94,Tryz.ntmps94
  go_wp2_with (first|(go_at_call 76;refine (HN.out _).mono ?_;rintro e w' ⟨rfl,rfl⟩)|(go_at_call 75;((with_reducible refine (must_yes _).mono ?_);rintro e w' ⟨rfl,rfl⟩))|(go_at_call 75;((with_reducible refine (must_no _).mono ?_);rintro e w' ⟨rfl,rfl⟩))|(go_at_call 74;((with_reducible refine (most_yes _ _ (by omega) _).mono ?_);rintro e w' ⟨rfl,rfl⟩))|(go_at_call 74;((with_reducible refine (most_no _ _ (by omega) _).mono ?_);rintro e w' ⟨rfl,rfl⟩)))
  exact⟨rfl,Ends.arg HF.out (below_box _ _)⟩
theorem ct_ref_name (tk tz:Int) (tn:ByteArray) (hs:tn.size≤9223372036854775807) (hk:tk=2) (hn:isName tn.data.toList=false) (w:World) :
    Calls Tryz.prog 94 #[.agg #[.int .u8 tk,.string tn,.int .i64 tz]] w (Ends (tyForm tk tn.data.toList tz) w):=by
  have HF:=hid (show tyForm tk tn.data.toList tz=1 by simp [tyForm,hk,hn])
  have hn':=name_any tn hs
  rw [hn] at hn'
  have HN:=hid hn'
  clear hn' hn
  subst hk
  go_enter Tryz.func94,Tryz.ntmps94
  go_wp2_with (first|(go_at_call 76;refine (HN.out _).mono ?_;rintro e w' ⟨rfl,rfl⟩)|(go_at_call 75;((with_reducible refine (must_yes _).mono ?_);rintro e w' ⟨rfl,rfl⟩))|(go_at_call 75;((with_reducible refine (must_no _).mono ?_);rintro e w' ⟨rfl,rfl⟩))|(go_at_call 74;((with_reducible refine (most_yes _ _ (by omega) _).mono ?_);rintro e w' ⟨rfl,rfl⟩))|(go_at_call 74;((with_reducible refine (most_no _ _ (by omega) _).mono ?_);rintro e w' ⟨rfl,rfl⟩)))
  exact⟨rfl,Ends.arg HF.out (below_box _ _)⟩
theorem ct_arr_ok_e (tk tz:Int) (tn:ByteArray) (hk:tk=3) (he:tn.data.toList = []) (h0:0 < tz) (h1:tz≤64) (w:World) :
    Calls Tryz.prog 94 #[.agg #[.int .u8 tk,.string tn,.int .i64 tz]] w (Ends (tyForm tk tn.data.toList tz) w):=by
  have HF:=hid (show tyForm tk tn.data.toList tz=0 by simp [tyForm,hk,he,h0];omega)
  have t1:=emp_yes he
  have t2:=nil_yes he
  clear he
  subst hk
  go_enter Tryz.func94,Tryz.ntmps94
  go_wp2_with (first|(go_at_call 75;((with_reducible refine (must_yes _).mono ?_);rintro e w' ⟨rfl,rfl⟩))|(go_at_call 75;((with_reducible refine (must_no _).mono ?_);rintro e w' ⟨rfl,rfl⟩))|(go_at_call 74;((with_reducible refine (most_yes _ _ (by omega) _).mono ?_);rintro e w' ⟨rfl,rfl⟩))|(go_at_call 74;((with_reducible refine (most_no _ _ (by omega) _).mono ?_);rintro e w' ⟨rfl,rfl⟩)))
  go_end0
  exact Ends.ok HF.out (below_box _ _)
theorem ct_arr_big_e (tk tz:Int) (tn:ByteArray) (hk:tk=3) (he:tn.data.toList = []) (h1:64 < tz) (w:World) :
    Calls Tryz.prog 94 #[.agg #[.int .u8 tk,.string tn,.int .i64 tz]] w (Ends (tyForm tk tn.data.toList tz) w):=by
  have h0:0 < tz:=by omega
  have HF:=hid (show tyForm tk tn.data.toList tz=3 by simp [tyForm,hk,he,h0,h1])
  have t1:=emp_yes he
  have t2:=nil_yes he
  clear he
  subst hk
  go_enter Tryz.func94,Tryz.ntmps94
  go_wp2_with (first|(go_at_call 75;((with_reducible refine (must_yes _).mono ?_);rintro e w' ⟨rfl,rfl⟩))|(go_at_call 75;((with_reducible refine (must_no _).mono ?_);rintro e w' ⟨rfl,rfl⟩))|(go_at_call 74;((with_reducible refine (most_yes _ _ (by omega) _).mono ?_);rintro e w' ⟨rfl,rfl⟩))|(go_at_call 74;((with_reducible refine (most_no _ _ (by omega) _).mono ?_);rintro e w' ⟨rfl,rfl⟩)))
  exact⟨rfl,Ends.limit HF.out (below_box _ _)⟩
theorem ct_arr_n_e (tk tz:Int) (tn:ByteArray) (hk:tk=3) (he:tn.data.toList = []) (h0:tz≤0) (w:World) :
    Calls Tryz.prog 94 #[.agg #[.int .u8 tk,.string tn,.int .i64 tz]] w (Ends (tyForm tk tn.data.toList tz) w):=by
  have d0:decide (0 < tz)=false:=decide_eq_false (by omega)
  have HF:=hid (show tyForm tk tn.data.toList tz=1 by simp [tyForm,hk,he];omega)
  have t1:=emp_yes he
  have t2:=nil_yes he
  clear he
  subst hk
  go_enter Tryz.func94,Tryz.ntmps94
  go_wp2_with (first|(go_at_call 75;((with_reducible refine (must_yes _).mono ?_);rintro e w' ⟨rfl,rfl⟩))|(go_at_call 75;((with_reducible refine (must_no _).mono ?_);rintro e w' ⟨rfl,rfl⟩))|(go_at_call 74;((with_reducible refine (most_yes _ _ (by omega) _).mono ?_);rintro e w' ⟨rfl,rfl⟩))|(go_at_call 74;((with_reducible refine (most_no _ _ (by omega) _).mono ?_);rintro e w' ⟨rfl,rfl⟩)))
  exact⟨rfl,Ends.arg HF.out (below_box _ _)⟩
theorem ct_arr_ok_n (tk tz:Int) (tn:ByteArray) (hs:tn.size≤9223372036854775807) (hk:tk=3) (he:¬ tn.data.toList = []) (hn:isName tn.data.toList=true) (h0:0 < tz) (h1:tz≤64) (w:World) :
    Calls Tryz.prog 94 #[.agg #[.int .u8 tk,.string tn,.int .i64 tz]] w (Ends (tyForm tk tn.data.toList tz) w):=by
  have HF:=hid (show tyForm tk tn.data.toList tz=0 by simp [tyForm,hk,he,hn,h0];omega)
  have t1:=emp_no he
  have hn':=name_any tn hs
  rw [hn] at hn'
  have HN:=hid hn'
  clear hn' hn
  clear he
  subst hk
  go_enter Tryz.func94,Tryz.ntmps94
  go_wp2_with (first|(go_at_call 76;refine (HN.out _).mono ?_;rintro e w' ⟨rfl,rfl⟩)|(go_at_call 75;((with_reducible refine (must_yes _).mono ?_);rintro e w' ⟨rfl,rfl⟩))|(go_at_call 75;((with_reducible refine (must_no _).mono ?_);rintro e w' ⟨rfl,rfl⟩))|(go_at_call 74;((with_reducible refine (most_yes _ _ (by omega) _).mono ?_);rintro e w' ⟨rfl,rfl⟩))|(go_at_call 74;((with_reducible refine (most_no _ _ (by omega) _).mono ?_);rintro e w' ⟨rfl,rfl⟩)))
  go_end0
  exact Ends.ok HF.out (below_box _ _)
theorem ct_arr_big_n (tk tz:Int) (tn:ByteArray) (hs:tn.size≤9223372036854775807) (hk:tk=3) (he:¬ tn.data.toList = []) (hn:isName tn.data.toList=true) (h1:64 < tz) (w:World) :
    Calls Tryz.prog 94 #[.agg #[.int .u8 tk,.string tn,.int .i64 tz]] w (Ends (tyForm tk tn.data.toList tz) w):=by
  have h0:0 < tz:=by omega
  have HF:=hid (show tyForm tk tn.data.toList tz=3 by simp [tyForm,hk,he,hn,h0,h1])
  have t1:=emp_no he
  have hn':=name_any tn hs
  rw [hn] at hn'
  have HN:=hid hn'
  clear hn' hn
  clear he
  subst hk
  go_enter Tryz.func94,Tryz.ntmps94
  go_wp2_with (first|(go_at_call 76;refine (HN.out _).mono ?_;rintro e w' ⟨rfl,rfl⟩)|(go_at_call 75;((with_reducible refine (must_yes _).mono ?_);rintro e w' ⟨rfl,rfl⟩))|(go_at_call 75;((with_reducible refine (must_no _).mono ?_);rintro e w' ⟨rfl,rfl⟩))|(go_at_call 74;((with_reducible refine (most_yes _ _ (by omega) _).mono ?_);rintro e w' ⟨rfl,rfl⟩))|(go_at_call 74;((with_reducible refine (most_no _ _ (by omega) _).mono ?_);rintro e w' ⟨rfl,rfl⟩)))
  exact⟨rfl,Ends.limit HF.out (below_box _ _)⟩
theorem ct_arr_n_n (tk tz:Int) (tn:ByteArray) (hs:tn.size≤9223372036854775807) (hk:tk=3) (he:¬ tn.data.toList = []) (hn:isName tn.data.toList=true) (h0:tz≤0) (w:World) :
    Calls Tryz.prog 94 #[.agg #[.int .u8 tk,.string tn,.int .i64 tz]] w (Ends (tyForm tk tn.data.toList tz) w):=by
  have d0:decide (0 < tz)=false:=decide_eq_false (by omega)
  have HF:=hid (show tyForm tk tn.data.toList tz=1 by simp [tyForm,hk,he,hn];omega)
  have t1:=emp_no he
  have hn':=name_any tn hs
  rw [hn] at hn'
  have HN:=hid hn'
  clear hn' hn
  clear he
  subst hk
  go_enter Tryz.func94,Tryz.ntmps94
  go_wp2_with (first|(go_at_call 76;refine (HN.out _).mono ?_;rintro e w' ⟨rfl,rfl⟩)|(go_at_call 75;((with_reducible refine (must_yes _).mono ?_);rintro e w' ⟨rfl,rfl⟩))|(go_at_call 75;((with_reducible refine (must_no _).mono ?_);rintro e w' ⟨rfl,rfl⟩))|(go_at_call 74;((with_reducible refine (most_yes _ _ (by omega) _).mono ?_);rintro e w' ⟨rfl,rfl⟩))|(go_at_call 74;((with_reducible refine (most_no _ _ (by omega) _).mono ?_);rintro e w' ⟨rfl,rfl⟩)))
  exact⟨rfl,Ends.arg HF.out (below_box _ _)⟩
theorem ct_arr_name (tk tz:Int) (tn:ByteArray) (hs:tn.size≤9223372036854775807) (hk:tk=3) (he:¬ tn.data.toList = []) (hn:isName tn.data.toList=false) (w:World) :
    Calls Tryz.prog 94 #[.agg #[.int .u8 tk,.string tn,.int .i64 tz]] w (Ends (tyForm tk tn.data.toList tz) w):=by
  have HF:=hid (show tyForm tk tn.data.toList tz=1 by simp [tyForm,hk,he,hn])
  have t1:=emp_no he
  have hn':=name_any tn hs
  rw [hn] at hn'
  have HN:=hid hn'
  clear hn' hn
  clear he
  subst hk
  go_enter Tryz.func94,Tryz.ntmps94
  go_wp2_with (first|(go_at_call 76;refine (HN.out _).mono ?_;rintro e w' ⟨rfl,rfl⟩)|(go_at_call 75;((with_reducible refine (must_yes _).mono ?_);rintro e w' ⟨rfl,rfl⟩))|(go_at_call 75;((with_reducible refine (must_no _).mono ?_);rintro e w' ⟨rfl,rfl⟩))|(go_at_call 74;((with_reducible refine (most_yes _ _ (by omega) _).mono ?_);rintro e w' ⟨rfl,rfl⟩))|(go_at_call 74;((with_reducible refine (most_no _ _ (by omega) _).mono ?_);rintro e w' ⟨rfl,rfl⟩)))
  exact⟨rfl,Ends.arg HF.out (below_box _ _)⟩
theorem ct_none (tk tz:Int) (tn:ByteArray) (h1:¬ tk=1) (h2:¬ tk=2) (h3:¬ tk=3) (w:World) :
    Calls Tryz.prog 94 #[.agg #[.int .u8 tk,.string tn,.int .i64 tz]] w (Ends (tyForm tk tn.data.toList tz) w):=by
  have HF:=hid (show tyForm tk tn.data.toList tz=1 by simp [tyForm,h1,h2,h3])
  have q1:(tk == 1)=false:=beq_eq_false_iff_ne.2 h1
  have q2:(tk == 2)=false:=beq_eq_false_iff_ne.2 h2
  have q3:(tk == 3)=false:=beq_eq_false_iff_ne.2 h3
  clear h1 h2 h3
  go_enter Tryz.func94,Tryz.ntmps94
  go_wp2_with (first|(go_at_call 75;((with_reducible refine (must_yes _).mono ?_);rintro e w' ⟨rfl,rfl⟩))|(go_at_call 75;((with_reducible refine (must_no _).mono ?_);rintro e w' ⟨rfl,rfl⟩))|(go_at_call 74;((with_reducible refine (most_yes _ _ (by omega) _).mono ?_);rintro e w' ⟨rfl,rfl⟩))|(go_at_call 74;((with_reducible refine (most_no _ _ (by omega) _).mono ?_);rintro e w' ⟨rfl,rfl⟩)))
  exact⟨rfl,Ends.arg HF.out (below_box _ _)⟩
theorem ctype_any (tk tz:Int) (tn:ByteArray) (hs:tn.size≤9223372036854775807) (w:World) :
    Calls Tryz.prog 94 #[.agg #[.int .u8 tk,.string tn,.int .i64 tz]] w (Ends (tyForm tk tn.data.toList tz) w):=by
  by_cases h1:tk=1
  · by_cases he:tn.data.toList = []
    · by_cases hz:tz=0
      · exact ct_int_ok tk tz tn h1 he hz w
      · exact ct_int_n tk tz tn h1 he hz w
    · exact ct_int_name tk tz tn h1 he w
  by_cases h2:tk=2
  · cases hn:isName tn.data.toList with
    | true =>
      by_cases hz:tz=0
      · exact ct_ref_ok tk tz tn hs h2 hn hz w
      · exact ct_ref_n tk tz tn hs h2 hn hz w
    | false=>exact ct_ref_name tk tz tn hs h2 hn w
  by_cases h3:tk=3
  · by_cases he:tn.data.toList = []
    · by_cases h0:0 < tz
      · by_cases hb:tz≤64
        · exact ct_arr_ok_e tk tz tn h3 he h0 hb w
        · exact ct_arr_big_e tk tz tn h3 he (by omega) w
      · exact ct_arr_n_e tk tz tn h3 he (by omega) w
    · cases hn:isName tn.data.toList with
      | true =>
        by_cases h0:0 < tz
        · by_cases hb:tz≤64
          · exact ct_arr_ok_n tk tz tn hs h3 he hn h0 hb w
          · exact ct_arr_big_n tk tz tn hs h3 he hn (by omega) w
        · exact ct_arr_n_n tk tz tn hs h3 he hn (by omega) w
      | false=>exact ct_arr_name tk tz tn hs h3 he hn w
  · exact ct_none tk tz tn h1 h2 h3 w
end Go.Proofs.YtdhieihcmnpneaaGreatDoor
/- Where an expression lies in memory, and what is read of it there. Nothing here is a walk. -/
namespace Go.Proofs.YtdhieihcmnpneaaGreatDoor
open Lib (hid)
set_option maxHeartbeats 400000
open Go Go.Lib Go.RowKit
/-! ### Where an expression lies -/
structure HdOk (h:Hd):Prop where
  k:0≤h.k∧h.k≤255
  n:-9223372036854775808≤h.n∧h.n≤9223372036854775807
  name:h.name.size≤9223372036854775807
  tn:h.tn.size≤9223372036854775807
  tz:-9223372036854775808≤h.tz∧h.tz≤9223372036854775807
def Lies (w:World) (B:Nat) (s:Value) (l:List X):Prop:=
  ∃ ao cap,s = .slice ao l.length cap∧l.length≤140737488351232∧(l = [] ∨ ∃ g off,ao=some ⟨g,off,none⟩ ∧ g < B∧∀ i x,l[i]? = some x→∀ j u,x.cells[j]? = some u→w.cell? ⟨g,off+(i * 7+j),none⟩ = some u)
inductive InW (w:World) (B:Nat):X→Prop where
  | mk (h:Hd) (s:Value) (l:List X):HdOk h→Lies w B s l→(∀ a ∈ l,InW w B a)→InW w B (.mk h s l)
theorem Lies.below {w w':World} {B:Nat} {s:Value} {l:List X} (h:Lies w B s l) (hb:Below B w w'):Lies w' B s l:=by
  obtain⟨ao,cap,hs,hl,h⟩:=h
  refine⟨ao,cap,hs,hl, ?_⟩
  rcases h with h|⟨g,off,h1,h2,h3⟩
  · exact .inl h
  · exact .inr ⟨g,off,h1,h2,fun i x hx j u hu=>by rw [hb.cell (p:=⟨g,_,none⟩) h2];exact h3 i x hx j u hu⟩
theorem InW.keeps {w w':World} {B:Nat} (hb:Below B w w'):∀ x,InW w B x→InW w' B x:=by
  refine X.ind fun h s l ih hx=>?_
  cases hx with
  | mk _ _ _ h1 h2 h3=>exact .mk h s l h1 (h2.below hb) fun a ha=>ih a ha (h3 a ha)
theorem InW.up {w:World} {B B':Nat} (hB:B≤B'):∀ x,InW w B x→InW w B' x:=by
  refine X.ind fun h s l ih hx=>?_
  cases hx with
  | mk _ _ _ h1 h2 h3 =>
    refine .mk h s l h1 ?_ fun a ha=>ih a ha (h3 a ha)
    obtain⟨ao,cap,hs,hl,h⟩:=h2
    refine⟨ao,cap,hs,hl, ?_⟩
    rcases h with h|⟨g,off,q1,q2,q3⟩
    · exact .inl h
    · exact .inr ⟨g,off,q1,by omega,q3⟩
theorem InW.ok {w:World} {B:Nat} {x:X} (h:InW w B x):HdOk x.hd:=by cases h with|mk _ _ _ h1 _ _=>exact h1
theorem own7 {w:World} {b:Nat} {T:TypeId} {fr:Nat × Nat} {a0 a1 a2 a3 a4 a5 a6:Value} (h:w.heap[b]? = some (.cells #[a0,a1,a2,a3,a4,a5,a6] T fr)) :
    w.cell? ⟨b,0,none⟩ = some a0∧w.cell? ⟨b,1,none⟩ = some a1∧w.cell? ⟨b,2,none⟩ = some a2∧w.cell? ⟨b,3,none⟩ = some a3∧w.cell? ⟨b,4,none⟩ = some a4∧w.cell? ⟨b,5,none⟩ = some a5∧w.cell? ⟨b,6,none⟩ = some a6:=
  ⟨by rw [Lib.cell_of_heap h];rfl,by rw [Lib.cell_of_heap h];rfl,by rw [Lib.cell_of_heap h];rfl,by rw [Lib.cell_of_heap h];rfl,by rw [Lib.cell_of_heap h];rfl,by rw [Lib.cell_of_heap h];rfl,by rw [Lib.cell_of_heap h];rfl⟩
theorem val_of {a:X} {v:Value} (e:a.s=v):a.val = .agg #[.int .u8 a.hd.k,.int .i64 a.hd.n,.string a.hd.name,.int .u8 a.hd.tk,.string a.hd.tn,.int .i64 a.hd.tz,v]:=by rw [← e]
theorem in_kids {w:World} {B:Nat} {h:Hd} {s:Value} {l:List X} (hI:InW w B (.mk h s l)):HdOk h∧∀ a ∈ l,InW w B a:=by
  cases hI with|mk _ _ _ h1 _ h3=>exact⟨h1,h3⟩
theorem cells7 {w:World} {g off:Nat} {a:X} (h:∀ j u,a.cells[j]? = some u→w.cell? ⟨g,off+j,none⟩ = some u) :
    w.cell? ⟨g,off,none⟩ = some (.int .u8 a.hd.k)∧w.cell? ⟨g,off+1,none⟩ = some (.int .i64 a.hd.n)∧w.cell? ⟨g,off+2,none⟩ = some (.string a.hd.name)∧w.cell? ⟨g,off+3,none⟩ = some (.int .u8 a.hd.tk) ∧
    w.cell? ⟨g,off+4,none⟩ = some (.string a.hd.tn)∧w.cell? ⟨g,off+5,none⟩ = some (.int .i64 a.hd.tz)∧w.cell? ⟨g,off+6,none⟩ = some a.s:=
  ⟨h 0 _ rfl,h 1 _ rfl,h 2 _ rfl,h 3 _ rfl,h 4 _ rfl,h 5 _ rfl,h 6 _ rfl⟩
theorem slice_of {w:World} {B:Nat} {a:X} (h:InW w B a):∃ ao n c,a.s = .slice ao n c:=by
  cases h with
  | mk _ _ _ _ h2 _ =>
    obtain⟨ao,c,e,_⟩:=h2
    exact⟨ao,_,c,e⟩
theorem kidk {w:World} {B:Nat} {h:Hd} {s:Value} {l:List X} (hI:InW w B (.mk h s l)) {g off len cap:Nat} (hs:s = .slice (some ⟨g,off,none⟩) len cap) (k:Nat) (hk:k < l.length):∃ ao n2 c2,l[k].s = .slice ao n2 c2 ∧
    w.cell? ⟨g,off+k * 7,none⟩ = some (.int .u8 l[k].hd.k)∧w.cell? ⟨g,off+k * 7+1,none⟩ = some (.int .i64 l[k].hd.n)∧w.cell? ⟨g,off+k * 7+2,none⟩ = some (.string l[k].hd.name)∧w.cell? ⟨g,off+k * 7+3,none⟩ = some (.int .u8 l[k].hd.tk) ∧
    w.cell? ⟨g,off+k * 7+4,none⟩ = some (.string l[k].hd.tn)∧w.cell? ⟨g,off+k * 7+5,none⟩ = some (.int .i64 l[k].hd.tz)∧w.cell? ⟨g,off+k * 7+6,none⟩ = some (.slice ao n2 c2):=by
  cases hI with
  | mk _ _ _ _ hl hin =>
    obtain⟨ao,n2,c2,e⟩:=slice_of (hin l[k] (List.getElem_mem hk))
    obtain⟨ao',cap',hs',_,hl⟩:=hl
    rcases hl with hl|⟨g',off',e1,_,hc⟩
    · subst hl;exact absurd hk (by simp)
    rw [hs] at hs'
    injection hs' with e2 _ _
    rw [e1] at e2
    cases e2
    have hb:∀ j u,l[k].cells[j]? = some u→w.cell? ⟨g,off+k * 7+j,none⟩ = some u:=fun j u hu=>by
      have:=hc k l[k] (List.getElem?_eq_getElem hk) j u hu
      rw [← Nat.add_assoc] at this
      exact this
    obtain⟨p0,p1,p2,p3,p4,p5,p6⟩:=cells7 hb
    exact⟨ao,n2,c2,e,p0,p1,p2,p3,p4,p5,by rw [← e];exact p6⟩
theorem lies_form {w:World} {B:Nat} {h:Hd} {s:Value} {l:List X} (hI:InW w B (.mk h s l)):∃ ao cap,s = .slice ao l.length cap∧l.length≤9223372036854775807∧(0 < l.length→∃ g off,ao=some ⟨g,off,none⟩ ∧ g < B):=by
  cases hI with
  | mk _ _ _ _ hl hin =>
    obtain⟨ao,cap,hs,hlen,hl⟩:=hl
    refine⟨ao,cap,hs,by omega,fun h0=>?_⟩
    rcases hl with hl|⟨g,off,e1,hg,_⟩
    · subst hl;exact absurd h0 (by simp)
    · exact⟨g,off,e1,hg⟩
theorem lies_room {w:World} {B:Nat} {h:Hd} {s:Value} {l:List X} (hI:InW w B (.mk h s l)):l.length≤140737488351232:=by
  cases hI with|mk _ _ _ _ hl _=>obtain⟨_,_,_,h,_⟩:=hl;exact h
theorem map_ne {w:World} {m c:Nat} {l:List (Int × Value)} {cs:Array Value} {T:TypeId} {fr:Nat × Nat} (h:IsMap w m l) (hc:w.heap[c]? = some (.cells cs T fr)):m ≠ c:=by
  rintro rfl
  obtain⟨es,ck,hb,_⟩:=h
  rw [hb] at hc
  cases hc
end Go.Proofs.YtdhieihcmnpneaaGreatDoor
/- Where a program lies in memory, and what is read of it there. Nothing here is a walk. -/
namespace Go.Proofs.YtdhieihcmnpneaaGreatDoor
open Lib (hid)
set_option maxHeartbeats 400000
set_option maxRecDepth 100000
open Go Go.Lib Go.RowKit
def LiesG {α:Type} (cells:α→List Value) (k:Nat) (w:World) (B:Nat) (s:Value) (l:List α):Prop:=
  ∃ ao cap,s = .slice ao l.length cap∧l.length≤140737488351232∧(l = [] ∨ ∃ g off,ao=some ⟨g,off,none⟩ ∧ g < B∧∀ i x,l[i]? = some x→∀ j u,(cells x)[j]? = some u→w.cell? ⟨g,off+(i * k+j),none⟩ = some u)
theorem LiesG.below {α:Type} {cells:α→List Value} {k:Nat} {w w':World} {B:Nat} {s:Value} {l:List α} (h:LiesG cells k w B s l) (hb:Below B w w'):LiesG cells k w' B s l:=by
  obtain⟨ao,cap,hs,hl,h⟩:=h
  refine⟨ao,cap,hs,hl, ?_⟩
  rcases h with h|⟨g,off,h1,h2,h3⟩
  · exact .inl h
  · exact .inr ⟨g,off,h1,h2,fun i x hx j u hu=>by rw [hb.cell (p:=⟨g,_,none⟩) h2];exact h3 i x hx j u hu⟩
theorem LiesG.up {α:Type} {cells:α→List Value} {k:Nat} {w:World} {B B':Nat} {s:Value} {l:List α} (hB:B≤B') (h:LiesG cells k w B s l):LiesG cells k w B' s l:=by
  obtain⟨ao,cap,hs,hl,h⟩:=h
  refine⟨ao,cap,hs,hl, ?_⟩
  rcases h with h|⟨g,off,q1,q2,q3⟩
  · exact .inl h
  · exact .inr ⟨g,off,q1,by omega,q3⟩
theorem LiesG.form {α:Type} {cells:α→List Value} {k:Nat} {w:World} {B:Nat} {s:Value} {l:List α} (h:LiesG cells k w B s l) :
    ∃ ao cap,s = .slice ao l.length cap∧l.length≤9223372036854775807∧(0 < l.length→∃ g off,ao=some ⟨g,off,none⟩ ∧ g < B):=by
  obtain⟨ao,cap,hs,hlen,hl⟩:=h
  refine⟨ao,cap,hs,by omega,fun h0=>?_⟩
  rcases hl with hl|⟨g,off,e1,hg,_⟩
  · subst hl;exact absurd h0 (by simp)
  · exact⟨g,off,e1,hg⟩
theorem LiesG.room {α:Type} {cells:α→List Value} {k:Nat} {w:World} {B:Nat} {s:Value} {l:List α} (h:LiesG cells k w B s l):l.length≤140737488351232:=by
  obtain⟨_,_,_,h,_⟩:=h;exact h
theorem LiesG.at {α:Type} {cells:α→List Value} {k:Nat} {w:World} {B:Nat} {s:Value} {l:List α} (h:LiesG cells k w B s l) {g off n c:Nat} (hs:s = .slice (some ⟨g,off,none⟩) n c) (i:Nat) (hi:i < l.length) :
    g < B∧∀ j u,(cells l[i])[j]? = some u→w.cell? ⟨g,off+i * k+j,none⟩ = some u:=by
  obtain⟨ao,cap,hs',_,hl⟩:=h
  rcases hl with hl|⟨g',off',e1,hg,hc⟩
  · subst hl;exact absurd hi (by simp)
  rw [hs] at hs'
  injection hs' with e2 _ _
  rw [e1] at e2
  cases e2
  exact⟨hg,fun j u hu=>by rw [Nat.add_assoc];exact hc i l[i] (List.getElem?_eq_getElem hi) j u hu⟩
structure TyOk (t:Ty):Prop where
  k:0≤t.k∧t.k≤255
  n:t.n.size≤9223372036854775807
  z:-9223372036854775808≤t.z∧t.z≤9223372036854775807
structure FdOk (f:Fd):Prop where
  name:f.name.size≤9223372036854775807
  t:TyOk f.t
structure ShOk (h:Sh):Prop where
  k:0≤h.k∧h.k≤255
  name:h.name.size≤9223372036854775807
  t:TyOk h.t
inductive SIn (w:World) (B:Nat):St→Prop where
  | mk (h:Sh) (x y:X) (bv ev:Value) (b e:List St):ShOk h→InW w B x→InW w B y→LiesG St.cells 21 w B bv b→LiesG St.cells 21 w B ev e→(∀ a ∈ b,SIn w B a)→(∀ a ∈ e,SIn w B a)→SIn w B (.mk h x y bv ev b e)
theorem SIn.keeps {w w':World} {B:Nat} (hb:Below B w w'):∀ x,SIn w B x→SIn w' B x:=by
  refine St.ind fun h x y bv ev b e ih1 ih2 hx=>?_
  cases hx with
  | mk _ _ _ _ _ _ _ h1 h2 h3 h4 h5 h6 h7=>exact .mk _ _ _ _ _ _ _ h1 (InW.keeps hb _ h2) (InW.keeps hb _ h3) (h4.below hb) (h5.below hb) (fun a ha=>ih1 a ha (h6 a ha)) (fun a ha=>ih2 a ha (h7 a ha))
theorem SIn.up {w:World} {B B':Nat} (hB:B≤B'):∀ x,SIn w B x→SIn w B' x:=by
  refine St.ind fun h x y bv ev b e ih1 ih2 hx=>?_
  cases hx with
  | mk _ _ _ _ _ _ _ h1 h2 h3 h4 h5 h6 h7=>exact .mk _ _ _ _ _ _ _ h1 (InW.up hB _ h2) (InW.up hB _ h3) (h4.up hB) (h5.up hB) (fun a ha=>ih1 a ha (h6 a ha)) (fun a ha=>ih2 a ha (h7 a ha))
structure RIn (w:World) (B:Nat) (r:Rc):Prop where
  name:r.name.size≤9223372036854775807
  lies:LiesG Fd.cells 4 w B r.v r.fields
  fields:∀ f ∈ r.fields,FdOk f
structure NIn (w:World) (B:Nat) (f:Fn):Prop where
  name:f.name.size≤9223372036854775807
  lies:LiesG Fd.cells 4 w B f.pv f.params
  params:∀ a ∈ f.params,FdOk a
  res:TyOk f.res
  blies:LiesG St.cells 21 w B f.bv f.body
  body:∀ a ∈ f.body,SIn w B a
structure TIn (w:World) (B:Nat) (t:Th):Prop where
  lies:LiesG St.cells 21 w B t.v t.list
  list:∀ a ∈ t.list,SIn w B a
structure EIn (w:World) (B:Nat) (e:En):Prop where
  rlies:LiesG Rc.cells 2 w B e.rv e.records
  records:∀ r ∈ e.records,RIn w B r
  slies:LiesG Fd.cells 4 w B e.sv e.shared
  shared:∀ f ∈ e.shared,FdOk f
  flies:LiesG Fn.cells 6 w B e.fv e.funcs
  funcs:∀ f ∈ e.funcs,NIn w B f
structure PIn (w:World) (B:Nat) (p:Pr):Prop where
  e:EIn w B p.e
  tlies:LiesG Th.cells 1 w B p.tv p.threads
  threads:∀ t ∈ p.threads,TIn w B t
theorem RIn.keeps {w w':World} {B:Nat} {r:Rc} (h:RIn w B r) (hb:Below B w w'):RIn w' B r:=⟨h.name,h.lies.below hb,h.fields⟩
theorem NIn.keeps {w w':World} {B:Nat} {r:Fn} (h:NIn w B r) (hb:Below B w w'):NIn w' B r:=⟨h.name,h.lies.below hb,h.params,h.res,h.blies.below hb,fun a ha=>SIn.keeps hb _ (h.body a ha)⟩
theorem TIn.keeps {w w':World} {B:Nat} {r:Th} (h:TIn w B r) (hb:Below B w w'):TIn w' B r:=⟨h.lies.below hb,fun a ha=>SIn.keeps hb _ (h.list a ha)⟩
theorem EIn.keeps {w w':World} {B:Nat} {r:En} (h:EIn w B r) (hb:Below B w w'):EIn w' B r:=
  ⟨h.rlies.below hb,fun a ha=>(h.records a ha).keeps hb,h.slies.below hb,h.shared,h.flies.below hb,fun a ha=>(h.funcs a ha).keeps hb⟩
theorem PIn.keeps {w w':World} {B:Nat} {r:Pr} (h:PIn w B r) (hb:Below B w w'):PIn w' B r:=⟨h.e.keeps hb,h.tlies.below hb,fun a ha=>(h.threads a ha).keeps hb⟩
theorem RIn.up {w:World} {B B':Nat} {r:Rc} (hB:B≤B') (h:RIn w B r):RIn w B' r:=⟨h.name,h.lies.up hB,h.fields⟩
theorem NIn.up {w:World} {B B':Nat} {r:Fn} (hB:B≤B') (h:NIn w B r):NIn w B' r:=⟨h.name,h.lies.up hB,h.params,h.res,h.blies.up hB,fun a ha=>SIn.up hB _ (h.body a ha)⟩
theorem TIn.up {w:World} {B B':Nat} {r:Th} (hB:B≤B') (h:TIn w B r):TIn w B' r:=⟨h.lies.up hB,fun a ha=>SIn.up hB _ (h.list a ha)⟩
theorem EIn.up {w:World} {B B':Nat} {r:En} (hB:B≤B') (h:EIn w B r):EIn w B' r:=
  ⟨h.rlies.up hB,fun a ha=>(h.records a ha).up hB,h.slies.up hB,h.shared,h.flies.up hB,fun a ha=>(h.funcs a ha).up hB⟩
theorem PIn.up {w:World} {B B':Nat} {r:Pr} (hB:B≤B') (h:PIn w B r):PIn w B' r:=⟨h.e.up hB,h.tlies.up hB,fun a ha=>(h.threads a ha).up hB⟩
theorem x_slice {w:World} {B:Nat} {x:X} (h:InW w B x):∃ ao cap,x.s = .slice ao x.args.length cap:=by
  cases h with|mk _ _ _ _ h2 _=>obtain⟨ao,cap,e,_⟩:=h2;exact⟨ao,cap,e⟩
/-! ### A statement as a row of cells -/
@[irreducible] def St.arr (s:St):Array Value:=s.cells.toArray
theorem arr_eq (s:St):s.arr=#[.int .u8 s.h.k,.string s.h.name,.int .u8 s.h.t.k,.string s.h.t.n,.int .i64 s.h.t.z,.int .u8 s.x.hd.k,.int .i64 s.x.hd.n,.string s.x.hd.name,.int .u8 s.x.hd.tk,.string s.x.hd.tn,.int .i64 s.x.hd.tz,s.x.s,
    .int .u8 s.y.hd.k,.int .i64 s.y.hd.n,.string s.y.hd.name,.int .u8 s.y.hd.tk,.string s.y.hd.tn,.int .i64 s.y.hd.tz,s.y.s,s.bv,s.ev]:=by unfold St.arr;rfl
theorem arr_size (s:St):s.arr.size=21:=by rw [arr_eq];rfl
theorem SIn.one {w:World} {B:Nat} {s:St} (h:SIn w B s):s.arr.all (·.oneCell')=true:=by
  cases h with
  | mk h x y bv ev b e h1 h2 h3 h4 h5 h6 h7 =>
    obtain⟨_,_,e1⟩:=x_slice h2
    obtain⟨_,_,e2⟩:=x_slice h3
    obtain⟨_,_,e3,_⟩:=h4
    obtain⟨_,_,e4,_⟩:=h5
    rw [arr_eq]
    simp only [St.x,St.y,St.bv,St.ev,St.h]
    rw [e1,e2,e3,e4]
    simp [Value.oneCell']
@[irreducible] noncomputable def loadS (a:Addr):Sem Value:=loadVar 64 a
theorem loadS_eq (a:Addr):loadVar 64 a=loadS a:=by unfold loadS;rfl
@[irreducible] noncomputable def loadX (a:Addr):Sem Value:=loadVar 62 a
theorem loadX_eq (a:Addr):loadVar 62 a=loadX a:=by unfold loadX;rfl
@[irreducible] noncomputable def storeS (a:Addr) (v:Value):Sem Unit:=storeVar 64 a v
theorem storeS_eq (a:Addr) (v:Value):storeVar 64 a v=storeS a v:=by unfold storeS;rfl
theorem loadS_row {w:World} {b:Nat} {T:TypeId} {fr:Nat × Nat} {c:Array Value} (hc:c.size=21) (h:w.heap[b]? = some (.cells c T fr)):(loadS ⟨b,0,none⟩).run Tryz.prog w = .ok (.agg c) w:=by
  unfold loadS
  exact run_loadVar_row (P:=Tryz.prog) w b T 64 _ fr ((Tryz.prog.underlying 64).getD (.array 0 0)) h (by kernel_rfl) (by kernel_rfl) (by rw [hc];kernel_rfl)
theorem loadS_mid {w:World} {g o:Nat} (s:St) (h:∀ j u,s.cells[j]? = some u→w.cell? ⟨g,o+j,none⟩ = some u):(loadS ⟨g,o,none⟩).run Tryz.prog w = .ok (.agg s.arr) w:=by
  unfold loadS St.arr
  exact run_loadVar_mid (P:=Tryz.prog) w g o 64 s.cells ((Tryz.prog.underlying 64).getD (.array 0 0)) h (by kernel_rfl) (by kernel_rfl) (by kernel_rfl)
theorem loadX_mid {w:World} {g o:Nat} (x:X) (h:∀ j u,x.cells[j]? = some u→w.cell? ⟨g,o+j,none⟩ = some u):(loadX ⟨g,o,none⟩).run Tryz.prog w = .ok x.val w:=by
  unfold loadX
  exact run_loadVar_mid (P:=Tryz.prog) w g o 62 x.cells ((Tryz.prog.underlying 62).getD (.array 0 0)) h (by kernel_rfl) (by kernel_rfl) (by kernel_rfl)
theorem storeS_last (w:World) (c':Array Value) (hs:c'.size=21) (h1:c'.all (·.oneCell')=true) (c:Array Value) (hc:c.size=21) :
    (storeS ⟨w.heap.size,0,none⟩ (.agg c')).run Tryz.prog (w.alloc (.cells c 64)) = .ok () (w.alloc (.cells c' 64)):=by
  unfold storeS
  exact run_storeVar_new (P:=Tryz.prog) w 64 c c' (by rw [hs];kernel_rfl) (by rw [hs,hc]) h1
theorem st_cell {w:World} {b:Nat} {T:TypeId} {fr:Nat × Nat} {s:St} (h:w.heap[b]? = some (.cells s.arr T fr)) (j:Nat) (u:Value) (hu:s.cells[j]? = some u):w.cell? ⟨b,j,none⟩ = some u:=by
  rw [Lib.cell_of_heap h]
  unfold St.arr
  simpa using hu
theorem st_x {w:World} {b:Nat} {T:TypeId} {fr:Nat × Nat} {s:St} (h:w.heap[b]? = some (.cells s.arr T fr)):(loadX ⟨b,5,none⟩).run Tryz.prog w = .ok s.x.val w:=
  loadX_mid s.x fun j u hu=>st_cell h (5+j) u (by
    have hj:j < 7:=(List.getElem?_eq_some_iff.1 hu).1
    have e:s.cells=(.int .u8 s.h.k :: .string s.h.name :: s.h.t.cells) ++ (s.x.cells ++ (s.y.cells ++ [s.bv,s.ev])):=rfl
    rw [e,List.getElem?_append_right (by simp [Ty.cells]),show 5+j - (Value.int .u8 s.h.k :: Value.string s.h.name :: s.h.t.cells).length=j by simp [Ty.cells],List.getElem?_append_left (by simpa [X.cells] using hj)]
    exact hu)
theorem st_y {w:World} {b:Nat} {T:TypeId} {fr:Nat × Nat} {s:St} (h:w.heap[b]? = some (.cells s.arr T fr)):(loadX ⟨b,12,none⟩).run Tryz.prog w = .ok s.y.val w:=
  loadX_mid s.y fun j u hu=>st_cell h (12+j) u (by
    have hj:j < 7:=(List.getElem?_eq_some_iff.1 hu).1
    have e:s.cells=((.int .u8 s.h.k :: .string s.h.name :: s.h.t.cells) ++ s.x.cells) ++ (s.y.cells ++ [s.bv,s.ev]):=rfl
    rw [e,List.getElem?_append_right (by simp [Ty.cells,X.cells]),show 12+j - ((Value.int .u8 s.h.k :: Value.string s.h.name :: s.h.t.cells) ++ s.x.cells).length=j by simp [Ty.cells,X.cells],List.getElem?_append_left (by simpa [X.cells] using hj)]
    exact hu)
theorem st_h {w:World} {b:Nat} {T:TypeId} {fr:Nat × Nat} {s:St} (h:w.heap[b]? = some (.cells s.arr T fr)) :
    w.cell? ⟨b,0,none⟩ = some (.int .u8 s.h.k)∧w.cell? ⟨b,1,none⟩ = some (.string s.h.name)∧w.cell? ⟨b,2,none⟩ = some (.int .u8 s.h.t.k)∧w.cell? ⟨b,3,none⟩ = some (.string s.h.t.n)∧w.cell? ⟨b,4,none⟩ = some (.int .i64 s.h.t.z)∧w.cell? ⟨b,19,none⟩ = some s.bv∧w.cell? ⟨b,20,none⟩ = some s.ev:=
  ⟨st_cell h 0 _ rfl,st_cell h 1 _ rfl,st_cell h 2 _ rfl,st_cell h 3 _ rfl,st_cell h 4 _ rfl,st_cell h 19 _ rfl,st_cell h 20 _ rfl⟩
end Go.Proofs.YtdhieihcmnpneaaGreatDoor
/- Worlds whose blocks below a number are the same. -/
namespace Go.Proofs.YtdhieihcmnpneaaGreatDoor
open Lib (hid)
set_option maxHeartbeats 400000
open Go.RowKit
def SameTo (L:Nat) (w W:World):Prop:=∀ k,k < L→W.heap[k]? = w.heap[k]?
theorem SameTo.refl (L:Nat) (w:World):SameTo L w w:=fun _ _=>rfl
theorem SameTo.drew (L:Nat) (w:World):SameTo L w w.drew:=fun _ _=>rfl
theorem SameTo.cell {L:Nat} {w W:World} (h:SameTo L w W) {p:Addr} {v:Value} (hp:p.block < L) (hc:w.cell? p=some v):W.cell? p=some v:=by
  rw [← hc];simp only [World.cell?,h _ hp]
theorem SameTo.of {L:Nat} {w W:World} (h:Below L w W):SameTo L w W:=fun k hk=>h.block k hk
theorem SameTo.trans {L:Nat} {a b c:World} (h:SameTo L a b) (k:SameTo L b c):SameTo L a c:=fun i hi=>(k i hi).trans (h i hi)
end Go.Proofs.YtdhieihcmnpneaaGreatDoor
