/- What is wrong with an expression's own form before its type is asked, as the show layer's checker finds it. -/
import Derived.Test.YtcibiiddigpnfaaRows
import Derived.Test.YtcibiiddigpnfaaGCheck
namespace Go.Proofs.Ytcibiiddigpnfaa
open Lib (hid)
set_option maxHeartbeats 1000000
set_option maxRecDepth 100000
open Go.RowKit
theorem form_args0 (B c i:Nat) (k n tk tz xa:Int) (nm tn xs:ByteArray) (xn xm xd:Bool) (ao:Option Addr) (m cap:Nat) (w:World) (h:Ck B c i w) (hx:wants k=some ⟨xa,xn,xm,xd,xs⟩) (hA:¬ xa = -1) (hA2:¬ (m:Int)=xa) :
    Calls Try.prog 97 #[.pointer (some ⟨c,0,none⟩),.agg #[.int .u8 k,.int .i64 n,.string nm,.int .u8 tk,.string tn,.int .i64 tz,.slice ao m cap]] w (Ends (1) w):=by
  have HB:=hid (below_two w (.cells #[.int .u8 k,.int .i64 n,.string nm,.int .u8 tk,.string tn,.int .i64 tz,.slice ao m cap] 62) (.cells #[.int .i64 xa,.bool xn,.bool xm,.bool xd,.string xs] 139))
  have hc:=h.lt
  obtain⟨-,-,m1,m2,c0,-,hM1,-⟩:=h.reads
  have hml:=hM1.lt
  have hl1:=look_x2 hM1 hx (w.alloc (.cells #[.int .u8 k,.int .i64 n,.string nm,.int .u8 tk,.string tn,.int .i64 tz,.slice ao m cap] 62)).drew (Below.heap_alloc _ _ _ hml)
  have hl2:=look_x2 hM1 hx ((w.alloc (.cells #[.int .u8 k,.int .i64 n,.string nm,.int .u8 tk,.string tn,.int .i64 tz,.slice ao m cap] 62)).alloc (.cells #[.int .i64 0,.bool false,.bool false,.bool false,.string ⟨#[]⟩] 139)).drew (two_heap hml _ _)
  clear h hM1 hx
  have a1:(xa == -1)=false:=beq_eq_false_iff_ne.2 hA
  have a2:((m:Int) == xa)=false:=beq_eq_false_iff_ne.2 hA2
  clear hA hA2
  go_enter Try.func97,Try.ntmps97
  go_wp2_with fail
  go_region
  all_goals
    go_wp2_with (first|(go_at_call 61;((with_reducible refine (must_yes _).mono ?_);rintro e w' ⟨rfl,rfl⟩))|(go_at_call 61;((with_reducible refine (must_no _).mono ?_);rintro e w' ⟨rfl,rfl⟩)))
    exact⟨rfl,Ends.arg rfl HB.out⟩
theorem form_num0_1 (B c i:Nat) (k n tk tz xa:Int) (nm tn xs:ByteArray) (xm xd:Bool) (ao:Option Addr) (m cap:Nat) (w:World) (h:Ck B c i w) (hx:wants k=some ⟨xa,false,xm,xd,xs⟩) (hA:xa = -1) (hN:¬ n=0) :
    Calls Try.prog 97 #[.pointer (some ⟨c,0,none⟩),.agg #[.int .u8 k,.int .i64 n,.string nm,.int .u8 tk,.string tn,.int .i64 tz,.slice ao m cap]] w (Ends (1) w):=by
  have HB:=hid (below_two w (.cells #[.int .u8 k,.int .i64 n,.string nm,.int .u8 tk,.string tn,.int .i64 tz,.slice ao m cap] 62) (.cells #[.int .i64 xa,.bool false,.bool xm,.bool xd,.string xs] 139))
  have hc:=h.lt
  obtain⟨-,-,m1,m2,c0,-,hM1,-⟩:=h.reads
  have hml:=hM1.lt
  have hl1:=look_x2 hM1 hx (w.alloc (.cells #[.int .u8 k,.int .i64 n,.string nm,.int .u8 tk,.string tn,.int .i64 tz,.slice ao m cap] 62)).drew (Below.heap_alloc _ _ _ hml)
  have hl2:=look_x2 hM1 hx ((w.alloc (.cells #[.int .u8 k,.int .i64 n,.string nm,.int .u8 tk,.string tn,.int .i64 tz,.slice ao m cap] 62)).alloc (.cells #[.int .i64 0,.bool false,.bool false,.bool false,.string ⟨#[]⟩] 139)).drew (two_heap hml _ _)
  clear h hM1 hx
  have a1:(xa == -1)=true:=beq_iff_eq.2 hA
  clear hA
  have b1:(n == 0)=false:=beq_eq_false_iff_ne.2 hN
  clear hN
  go_enter Try.func97,Try.ntmps97
  go_wp2_with fail
  go_region
  all_goals
    go_wp2_with (first|(go_at_call 61;((with_reducible refine (must_yes _).mono ?_);rintro e w' ⟨rfl,rfl⟩))|(go_at_call 61;((with_reducible refine (must_no _).mono ?_);rintro e w' ⟨rfl,rfl⟩)))
    exact⟨rfl,Ends.arg rfl HB.out⟩
theorem form_name0_11a (B c i:Nat) (k n tk tz xa:Int) (nm tn xs:ByteArray) (xd:Bool) (ao:Option Addr) (m cap:Nat) (w:World) (h:Ck B c i w) (hx:wants k=some ⟨xa,true,true,xd,xs⟩) (hA:xa = -1) (hs:nm.size≤9223372036854775807) (hM:isName nm.data.toList=false) :
    Calls Try.prog 97 #[.pointer (some ⟨c,0,none⟩),.agg #[.int .u8 k,.int .i64 n,.string nm,.int .u8 tk,.string tn,.int .i64 tz,.slice ao m cap]] w (Ends (1) w):=by
  have HB:=hid (below_two w (.cells #[.int .u8 k,.int .i64 n,.string nm,.int .u8 tk,.string tn,.int .i64 tz,.slice ao m cap] 62) (.cells #[.int .i64 xa,.bool true,.bool true,.bool xd,.string xs] 139))
  have hc:=h.lt
  obtain⟨-,-,m1,m2,c0,-,hM1,-⟩:=h.reads
  have hml:=hM1.lt
  have hl1:=look_x2 hM1 hx (w.alloc (.cells #[.int .u8 k,.int .i64 n,.string nm,.int .u8 tk,.string tn,.int .i64 tz,.slice ao m cap] 62)).drew (Below.heap_alloc _ _ _ hml)
  have hl2:=look_x2 hM1 hx ((w.alloc (.cells #[.int .u8 k,.int .i64 n,.string nm,.int .u8 tk,.string tn,.int .i64 tz,.slice ao m cap] 62)).alloc (.cells #[.int .i64 0,.bool false,.bool false,.bool false,.string ⟨#[]⟩] 139)).drew (two_heap hml _ _)
  clear h hM1 hx
  have a1:(xa == -1)=true:=beq_iff_eq.2 hA
  clear hA
  have hNM:=name_any nm hs
  rw [hM] at hNM
  have HNM:=hid hNM
  clear hNM hM
  go_enter Try.func97,Try.ntmps97
  go_wp2_with fail
  go_region
  all_goals
    go_wp2_with (first|(go_at_call 62;refine (HNM.out _).mono ?_;rintro e w' ⟨rfl,rfl⟩)|(go_at_call 61;((with_reducible refine (must_yes _).mono ?_);rintro e w' ⟨rfl,rfl⟩))|(go_at_call 61;((with_reducible refine (must_no _).mono ?_);rintro e w' ⟨rfl,rfl⟩)))
    exact⟨rfl,Ends.arg rfl HB.out⟩
theorem form_name0_11b (B c i:Nat) (k n tk tz xa:Int) (nm tn xs:ByteArray) (xd:Bool) (ao:Option Addr) (m cap:Nat) (w:World) (h:Ck B c i w) (hx:wants k=some ⟨xa,true,false,xd,xs⟩) (hA:xa = -1) (hM:¬ nm.data.toList = []) :
    Calls Try.prog 97 #[.pointer (some ⟨c,0,none⟩),.agg #[.int .u8 k,.int .i64 n,.string nm,.int .u8 tk,.string tn,.int .i64 tz,.slice ao m cap]] w (Ends (1) w):=by
  have HB:=hid (below_two w (.cells #[.int .u8 k,.int .i64 n,.string nm,.int .u8 tk,.string tn,.int .i64 tz,.slice ao m cap] 62) (.cells #[.int .i64 xa,.bool true,.bool false,.bool xd,.string xs] 139))
  have hc:=h.lt
  obtain⟨-,-,m1,m2,c0,-,hM1,-⟩:=h.reads
  have hml:=hM1.lt
  have hl1:=look_x2 hM1 hx (w.alloc (.cells #[.int .u8 k,.int .i64 n,.string nm,.int .u8 tk,.string tn,.int .i64 tz,.slice ao m cap] 62)).drew (Below.heap_alloc _ _ _ hml)
  have hl2:=look_x2 hM1 hx ((w.alloc (.cells #[.int .u8 k,.int .i64 n,.string nm,.int .u8 tk,.string tn,.int .i64 tz,.slice ao m cap] 62)).alloc (.cells #[.int .i64 0,.bool false,.bool false,.bool false,.string ⟨#[]⟩] 139)).drew (two_heap hml _ _)
  clear h hM1 hx
  have a1:(xa == -1)=true:=beq_iff_eq.2 hA
  clear hA
  have t1:=emp_no hM
  clear hM
  go_enter Try.func97,Try.ntmps97
  go_wp2_with fail
  go_region
  all_goals
    go_wp2_with (first|(go_at_call 61;((with_reducible refine (must_yes _).mono ?_);rintro e w' ⟨rfl,rfl⟩))|(go_at_call 61;((with_reducible refine (must_no _).mono ?_);rintro e w' ⟨rfl,rfl⟩)))
    exact⟨rfl,Ends.arg rfl HB.out⟩
theorem form_name0_12a (B c i:Nat) (k n tk tz xa:Int) (nm tn xs:ByteArray) (xd:Bool) (ao:Option Addr) (m cap:Nat) (w:World) (h:Ck B c i w) (hx:wants k=some ⟨xa,false,true,xd,xs⟩) (hA:xa = -1) (hN:n=0) (hs:nm.size≤9223372036854775807) (hM:isName nm.data.toList=false) :
    Calls Try.prog 97 #[.pointer (some ⟨c,0,none⟩),.agg #[.int .u8 k,.int .i64 n,.string nm,.int .u8 tk,.string tn,.int .i64 tz,.slice ao m cap]] w (Ends (1) w):=by
  have HB:=hid (below_two w (.cells #[.int .u8 k,.int .i64 n,.string nm,.int .u8 tk,.string tn,.int .i64 tz,.slice ao m cap] 62) (.cells #[.int .i64 xa,.bool false,.bool true,.bool xd,.string xs] 139))
  have hc:=h.lt
  obtain⟨-,-,m1,m2,c0,-,hM1,-⟩:=h.reads
  have hml:=hM1.lt
  have hl1:=look_x2 hM1 hx (w.alloc (.cells #[.int .u8 k,.int .i64 n,.string nm,.int .u8 tk,.string tn,.int .i64 tz,.slice ao m cap] 62)).drew (Below.heap_alloc _ _ _ hml)
  have hl2:=look_x2 hM1 hx ((w.alloc (.cells #[.int .u8 k,.int .i64 n,.string nm,.int .u8 tk,.string tn,.int .i64 tz,.slice ao m cap] 62)).alloc (.cells #[.int .i64 0,.bool false,.bool false,.bool false,.string ⟨#[]⟩] 139)).drew (two_heap hml _ _)
  clear h hM1 hx
  have a1:(xa == -1)=true:=beq_iff_eq.2 hA
  clear hA
  subst hN
  have hNM:=name_any nm hs
  rw [hM] at hNM
  have HNM:=hid hNM
  clear hNM hM
  go_enter Try.func97,Try.ntmps97
  go_wp2_with fail
  go_region
  all_goals
    go_wp2_with (first|(go_at_call 62;refine (HNM.out _).mono ?_;rintro e w' ⟨rfl,rfl⟩)|(go_at_call 61;((with_reducible refine (must_yes _).mono ?_);rintro e w' ⟨rfl,rfl⟩))|(go_at_call 61;((with_reducible refine (must_no _).mono ?_);rintro e w' ⟨rfl,rfl⟩)))
    exact⟨rfl,Ends.arg rfl HB.out⟩
theorem form_name0_12b (B c i:Nat) (k n tk tz xa:Int) (nm tn xs:ByteArray) (xd:Bool) (ao:Option Addr) (m cap:Nat) (w:World) (h:Ck B c i w) (hx:wants k=some ⟨xa,false,false,xd,xs⟩) (hA:xa = -1) (hN:n=0) (hM:¬ nm.data.toList = []) :
    Calls Try.prog 97 #[.pointer (some ⟨c,0,none⟩),.agg #[.int .u8 k,.int .i64 n,.string nm,.int .u8 tk,.string tn,.int .i64 tz,.slice ao m cap]] w (Ends (1) w):=by
  have HB:=hid (below_two w (.cells #[.int .u8 k,.int .i64 n,.string nm,.int .u8 tk,.string tn,.int .i64 tz,.slice ao m cap] 62) (.cells #[.int .i64 xa,.bool false,.bool false,.bool xd,.string xs] 139))
  have hc:=h.lt
  obtain⟨-,-,m1,m2,c0,-,hM1,-⟩:=h.reads
  have hml:=hM1.lt
  have hl1:=look_x2 hM1 hx (w.alloc (.cells #[.int .u8 k,.int .i64 n,.string nm,.int .u8 tk,.string tn,.int .i64 tz,.slice ao m cap] 62)).drew (Below.heap_alloc _ _ _ hml)
  have hl2:=look_x2 hM1 hx ((w.alloc (.cells #[.int .u8 k,.int .i64 n,.string nm,.int .u8 tk,.string tn,.int .i64 tz,.slice ao m cap] 62)).alloc (.cells #[.int .i64 0,.bool false,.bool false,.bool false,.string ⟨#[]⟩] 139)).drew (two_heap hml _ _)
  clear h hM1 hx
  have a1:(xa == -1)=true:=beq_iff_eq.2 hA
  clear hA
  subst hN
  have t1:=emp_no hM
  clear hM
  go_enter Try.func97,Try.ntmps97
  go_wp2_with fail
  go_region
  all_goals
    go_wp2_with (first|(go_at_call 61;((with_reducible refine (must_yes _).mono ?_);rintro e w' ⟨rfl,rfl⟩))|(go_at_call 61;((with_reducible refine (must_no _).mono ?_);rintro e w' ⟨rfl,rfl⟩)))
    exact⟨rfl,Ends.arg rfl HB.out⟩
theorem form_num0_2 (B c i:Nat) (k n tk tz xa:Int) (nm tn xs:ByteArray) (xm xd:Bool) (ao:Option Addr) (m cap:Nat) (w:World) (h:Ck B c i w) (hx:wants k=some ⟨xa,false,xm,xd,xs⟩) (hA:¬ xa = -1) (hA2:(m:Int)=xa) (hN:¬ n=0) :
    Calls Try.prog 97 #[.pointer (some ⟨c,0,none⟩),.agg #[.int .u8 k,.int .i64 n,.string nm,.int .u8 tk,.string tn,.int .i64 tz,.slice ao m cap]] w (Ends (1) w):=by
  have HB:=hid (below_two w (.cells #[.int .u8 k,.int .i64 n,.string nm,.int .u8 tk,.string tn,.int .i64 tz,.slice ao m cap] 62) (.cells #[.int .i64 xa,.bool false,.bool xm,.bool xd,.string xs] 139))
  have hc:=h.lt
  obtain⟨-,-,m1,m2,c0,-,hM1,-⟩:=h.reads
  have hml:=hM1.lt
  have hl1:=look_x2 hM1 hx (w.alloc (.cells #[.int .u8 k,.int .i64 n,.string nm,.int .u8 tk,.string tn,.int .i64 tz,.slice ao m cap] 62)).drew (Below.heap_alloc _ _ _ hml)
  have hl2:=look_x2 hM1 hx ((w.alloc (.cells #[.int .u8 k,.int .i64 n,.string nm,.int .u8 tk,.string tn,.int .i64 tz,.slice ao m cap] 62)).alloc (.cells #[.int .i64 0,.bool false,.bool false,.bool false,.string ⟨#[]⟩] 139)).drew (two_heap hml _ _)
  clear h hM1 hx
  have a1:(xa == -1)=false:=beq_eq_false_iff_ne.2 hA
  have a2:((m:Int) == xa)=true:=beq_iff_eq.2 hA2
  clear hA hA2
  have b1:(n == 0)=false:=beq_eq_false_iff_ne.2 hN
  clear hN
  go_enter Try.func97,Try.ntmps97
  go_wp2_with fail
  go_region
  all_goals
    go_wp2_with (first|(go_at_call 61;((with_reducible refine (must_yes _).mono ?_);rintro e w' ⟨rfl,rfl⟩))|(go_at_call 61;((with_reducible refine (must_no _).mono ?_);rintro e w' ⟨rfl,rfl⟩)))
    exact⟨rfl,Ends.arg rfl HB.out⟩
theorem form_name0_21a (B c i:Nat) (k n tk tz xa:Int) (nm tn xs:ByteArray) (xd:Bool) (ao:Option Addr) (m cap:Nat) (w:World) (h:Ck B c i w) (hx:wants k=some ⟨xa,true,true,xd,xs⟩) (hA:¬ xa = -1) (hA2:(m:Int)=xa) (hs:nm.size≤9223372036854775807) (hM:isName nm.data.toList=false) :
    Calls Try.prog 97 #[.pointer (some ⟨c,0,none⟩),.agg #[.int .u8 k,.int .i64 n,.string nm,.int .u8 tk,.string tn,.int .i64 tz,.slice ao m cap]] w (Ends (1) w):=by
  have HB:=hid (below_two w (.cells #[.int .u8 k,.int .i64 n,.string nm,.int .u8 tk,.string tn,.int .i64 tz,.slice ao m cap] 62) (.cells #[.int .i64 xa,.bool true,.bool true,.bool xd,.string xs] 139))
  have hc:=h.lt
  obtain⟨-,-,m1,m2,c0,-,hM1,-⟩:=h.reads
  have hml:=hM1.lt
  have hl1:=look_x2 hM1 hx (w.alloc (.cells #[.int .u8 k,.int .i64 n,.string nm,.int .u8 tk,.string tn,.int .i64 tz,.slice ao m cap] 62)).drew (Below.heap_alloc _ _ _ hml)
  have hl2:=look_x2 hM1 hx ((w.alloc (.cells #[.int .u8 k,.int .i64 n,.string nm,.int .u8 tk,.string tn,.int .i64 tz,.slice ao m cap] 62)).alloc (.cells #[.int .i64 0,.bool false,.bool false,.bool false,.string ⟨#[]⟩] 139)).drew (two_heap hml _ _)
  clear h hM1 hx
  have a1:(xa == -1)=false:=beq_eq_false_iff_ne.2 hA
  have a2:((m:Int) == xa)=true:=beq_iff_eq.2 hA2
  clear hA hA2
  have hNM:=name_any nm hs
  rw [hM] at hNM
  have HNM:=hid hNM
  clear hNM hM
  go_enter Try.func97,Try.ntmps97
  go_wp2_with fail
  go_region
  all_goals
    go_wp2_with (first|(go_at_call 62;refine (HNM.out _).mono ?_;rintro e w' ⟨rfl,rfl⟩)|(go_at_call 61;((with_reducible refine (must_yes _).mono ?_);rintro e w' ⟨rfl,rfl⟩))|(go_at_call 61;((with_reducible refine (must_no _).mono ?_);rintro e w' ⟨rfl,rfl⟩)))
    exact⟨rfl,Ends.arg rfl HB.out⟩
theorem form_name0_21b (B c i:Nat) (k n tk tz xa:Int) (nm tn xs:ByteArray) (xd:Bool) (ao:Option Addr) (m cap:Nat) (w:World) (h:Ck B c i w) (hx:wants k=some ⟨xa,true,false,xd,xs⟩) (hA:¬ xa = -1) (hA2:(m:Int)=xa) (hM:¬ nm.data.toList = []) :
    Calls Try.prog 97 #[.pointer (some ⟨c,0,none⟩),.agg #[.int .u8 k,.int .i64 n,.string nm,.int .u8 tk,.string tn,.int .i64 tz,.slice ao m cap]] w (Ends (1) w):=by
  have HB:=hid (below_two w (.cells #[.int .u8 k,.int .i64 n,.string nm,.int .u8 tk,.string tn,.int .i64 tz,.slice ao m cap] 62) (.cells #[.int .i64 xa,.bool true,.bool false,.bool xd,.string xs] 139))
  have hc:=h.lt
  obtain⟨-,-,m1,m2,c0,-,hM1,-⟩:=h.reads
  have hml:=hM1.lt
  have hl1:=look_x2 hM1 hx (w.alloc (.cells #[.int .u8 k,.int .i64 n,.string nm,.int .u8 tk,.string tn,.int .i64 tz,.slice ao m cap] 62)).drew (Below.heap_alloc _ _ _ hml)
  have hl2:=look_x2 hM1 hx ((w.alloc (.cells #[.int .u8 k,.int .i64 n,.string nm,.int .u8 tk,.string tn,.int .i64 tz,.slice ao m cap] 62)).alloc (.cells #[.int .i64 0,.bool false,.bool false,.bool false,.string ⟨#[]⟩] 139)).drew (two_heap hml _ _)
  clear h hM1 hx
  have a1:(xa == -1)=false:=beq_eq_false_iff_ne.2 hA
  have a2:((m:Int) == xa)=true:=beq_iff_eq.2 hA2
  clear hA hA2
  have t1:=emp_no hM
  clear hM
  go_enter Try.func97,Try.ntmps97
  go_wp2_with fail
  go_region
  all_goals
    go_wp2_with (first|(go_at_call 61;((with_reducible refine (must_yes _).mono ?_);rintro e w' ⟨rfl,rfl⟩))|(go_at_call 61;((with_reducible refine (must_no _).mono ?_);rintro e w' ⟨rfl,rfl⟩)))
    exact⟨rfl,Ends.arg rfl HB.out⟩
theorem form_name0_22a (B c i:Nat) (k n tk tz xa:Int) (nm tn xs:ByteArray) (xd:Bool) (ao:Option Addr) (m cap:Nat) (w:World) (h:Ck B c i w) (hx:wants k=some ⟨xa,false,true,xd,xs⟩) (hA:¬ xa = -1) (hA2:(m:Int)=xa) (hN:n=0) (hs:nm.size≤9223372036854775807) (hM:isName nm.data.toList=false) :
    Calls Try.prog 97 #[.pointer (some ⟨c,0,none⟩),.agg #[.int .u8 k,.int .i64 n,.string nm,.int .u8 tk,.string tn,.int .i64 tz,.slice ao m cap]] w (Ends (1) w):=by
  have HB:=hid (below_two w (.cells #[.int .u8 k,.int .i64 n,.string nm,.int .u8 tk,.string tn,.int .i64 tz,.slice ao m cap] 62) (.cells #[.int .i64 xa,.bool false,.bool true,.bool xd,.string xs] 139))
  have hc:=h.lt
  obtain⟨-,-,m1,m2,c0,-,hM1,-⟩:=h.reads
  have hml:=hM1.lt
  have hl1:=look_x2 hM1 hx (w.alloc (.cells #[.int .u8 k,.int .i64 n,.string nm,.int .u8 tk,.string tn,.int .i64 tz,.slice ao m cap] 62)).drew (Below.heap_alloc _ _ _ hml)
  have hl2:=look_x2 hM1 hx ((w.alloc (.cells #[.int .u8 k,.int .i64 n,.string nm,.int .u8 tk,.string tn,.int .i64 tz,.slice ao m cap] 62)).alloc (.cells #[.int .i64 0,.bool false,.bool false,.bool false,.string ⟨#[]⟩] 139)).drew (two_heap hml _ _)
  clear h hM1 hx
  have a1:(xa == -1)=false:=beq_eq_false_iff_ne.2 hA
  have a2:((m:Int) == xa)=true:=beq_iff_eq.2 hA2
  clear hA hA2
  subst hN
  have hNM:=name_any nm hs
  rw [hM] at hNM
  have HNM:=hid hNM
  clear hNM hM
  go_enter Try.func97,Try.ntmps97
  go_wp2_with fail
  go_region
  all_goals
    go_wp2_with (first|(go_at_call 62;refine (HNM.out _).mono ?_;rintro e w' ⟨rfl,rfl⟩)|(go_at_call 61;((with_reducible refine (must_yes _).mono ?_);rintro e w' ⟨rfl,rfl⟩))|(go_at_call 61;((with_reducible refine (must_no _).mono ?_);rintro e w' ⟨rfl,rfl⟩)))
    exact⟨rfl,Ends.arg rfl HB.out⟩
theorem form_name0_22b (B c i:Nat) (k n tk tz xa:Int) (nm tn xs:ByteArray) (xd:Bool) (ao:Option Addr) (m cap:Nat) (w:World) (h:Ck B c i w) (hx:wants k=some ⟨xa,false,false,xd,xs⟩) (hA:¬ xa = -1) (hA2:(m:Int)=xa) (hN:n=0) (hM:¬ nm.data.toList = []) :
    Calls Try.prog 97 #[.pointer (some ⟨c,0,none⟩),.agg #[.int .u8 k,.int .i64 n,.string nm,.int .u8 tk,.string tn,.int .i64 tz,.slice ao m cap]] w (Ends (1) w):=by
  have HB:=hid (below_two w (.cells #[.int .u8 k,.int .i64 n,.string nm,.int .u8 tk,.string tn,.int .i64 tz,.slice ao m cap] 62) (.cells #[.int .i64 xa,.bool false,.bool false,.bool xd,.string xs] 139))
  have hc:=h.lt
  obtain⟨-,-,m1,m2,c0,-,hM1,-⟩:=h.reads
  have hml:=hM1.lt
  have hl1:=look_x2 hM1 hx (w.alloc (.cells #[.int .u8 k,.int .i64 n,.string nm,.int .u8 tk,.string tn,.int .i64 tz,.slice ao m cap] 62)).drew (Below.heap_alloc _ _ _ hml)
  have hl2:=look_x2 hM1 hx ((w.alloc (.cells #[.int .u8 k,.int .i64 n,.string nm,.int .u8 tk,.string tn,.int .i64 tz,.slice ao m cap] 62)).alloc (.cells #[.int .i64 0,.bool false,.bool false,.bool false,.string ⟨#[]⟩] 139)).drew (two_heap hml _ _)
  clear h hM1 hx
  have a1:(xa == -1)=false:=beq_eq_false_iff_ne.2 hA
  have a2:((m:Int) == xa)=true:=beq_iff_eq.2 hA2
  clear hA hA2
  subst hN
  have t1:=emp_no hM
  clear hM
  go_enter Try.func97,Try.ntmps97
  go_wp2_with fail
  go_region
  all_goals
    go_wp2_with (first|(go_at_call 61;((with_reducible refine (must_yes _).mono ?_);rintro e w' ⟨rfl,rfl⟩))|(go_at_call 61;((with_reducible refine (must_no _).mono ?_);rintro e w' ⟨rfl,rfl⟩)))
    exact⟨rfl,Ends.arg rfl HB.out⟩
end Go.Proofs.Ytcibiiddigpnfaa
