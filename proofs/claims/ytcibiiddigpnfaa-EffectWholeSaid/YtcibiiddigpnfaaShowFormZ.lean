/- What the show layer's checker finds of an expression's type, where the rest of its own form is right (part Z). -/
import Derived.Test.YtcibiiddigpnfaaRows
import Derived.Test.YtcibiiddigpnfaaGCheck
namespace Go.Proofs.Ytcibiiddigpnfaa
open Lib (hid)
set_option maxHeartbeats 1000000
set_option maxRecDepth 100000
open Go.RowKit
theorem form_ty0_111 (B c i:Nat) (k n tk tz xa:Int) (nm tn xs:ByteArray) (ao:Option Addr) (m cap:Nat) (w:World) (h:Ck B c i w) (hx:wants k=some ⟨xa,true,true,true,xs⟩) (hA:xa = -1) (hs:nm.size≤9223372036854775807) (hM:isName nm.data.toList=true) (h2:¬ tk=2) (h3:¬ tk=3) :
    Calls Try.prog 97 #[.pointer (some ⟨c,0,none⟩),.agg #[.int .u8 k,.int .i64 n,.string nm,.int .u8 tk,.string tn,.int .i64 tz,.slice ao m cap]] w (Ends (1) w):=by
  have HB:=hid (below_two w (.cells #[.int .u8 k,.int .i64 n,.string nm,.int .u8 tk,.string tn,.int .i64 tz,.slice ao m cap] 62) (.cells #[.int .i64 xa,.bool true,.bool true,.bool true,.string xs] 139))
  have hc:=h.lt
  obtain⟨-,-,m1,m2,c0,-,hM1,-⟩:=h.reads
  have hml:=hM1.lt
  have hl1:=look_x2 hM1 hx (w.alloc (.cells #[.int .u8 k,.int .i64 n,.string nm,.int .u8 tk,.string tn,.int .i64 tz,.slice ao m cap] 62)).drew (Below.heap_alloc _ _ _ hml)
  have hl2:=look_x2 hM1 hx ((w.alloc (.cells #[.int .u8 k,.int .i64 n,.string nm,.int .u8 tk,.string tn,.int .i64 tz,.slice ao m cap] 62)).alloc (.cells #[.int .i64 0,.bool false,.bool false,.bool false,.string ⟨#[]⟩] 139)).drew (two_heap hml _ _)
  clear h hM1 hx
  have a1:(xa == -1)=true:=beq_iff_eq.2 hA
  clear hA
  have hNM:=name_any nm hs
  rw [hM] at hNM
  have HNM:=hid hNM
  clear hNM hM
  have u2:(tk == 2)=false:=beq_eq_false_iff_ne.2 h2
  have u3:(tk == 3)=false:=beq_eq_false_iff_ne.2 h3
  clear h2 h3
  go_enter Try.func97,Try.ntmps97
  go_wp2_with fail
  go_region
  all_goals
    go_wp2_with (first|(go_at_call 62;refine (HNM.out _).mono ?_;rintro e w' ⟨rfl,rfl⟩)|(go_at_call 61;((with_reducible refine (must_yes _).mono ?_);rintro e w' ⟨rfl,rfl⟩))|(go_at_call 61;((with_reducible refine (must_no _).mono ?_);rintro e w' ⟨rfl,rfl⟩)))
    exact⟨rfl,Ends.arg rfl HB.out⟩
theorem form_zy_111 (B c i:Nat) (k n tk tz xa:Int) (nm tn xs:ByteArray) (ao:Option Addr) (m cap:Nat) (w:World) (h:Ck B c i w) (hx:wants k=some ⟨xa,true,true,false,xs⟩) (hA:xa = -1) (hs:nm.size≤9223372036854775807) (hM:isName nm.data.toList=true) (hz:noTy tk tn tz=true) :
    Calls Try.prog 97 #[.pointer (some ⟨c,0,none⟩),.agg #[.int .u8 k,.int .i64 n,.string nm,.int .u8 tk,.string tn,.int .i64 tz,.slice ao m cap]] w (Ends (0) w):=by
  have HB:=hid (below_two w (.cells #[.int .u8 k,.int .i64 n,.string nm,.int .u8 tk,.string tn,.int .i64 tz,.slice ao m cap] 62) (.cells #[.int .i64 xa,.bool true,.bool true,.bool false,.string xs] 139))
  have hc:=h.lt
  obtain⟨-,-,m1,m2,c0,-,hM1,-⟩:=h.reads
  have hml:=hM1.lt
  have hl1:=look_x2 hM1 hx (w.alloc (.cells #[.int .u8 k,.int .i64 n,.string nm,.int .u8 tk,.string tn,.int .i64 tz,.slice ao m cap] 62)).drew (Below.heap_alloc _ _ _ hml)
  have hl2:=look_x2 hM1 hx ((w.alloc (.cells #[.int .u8 k,.int .i64 n,.string nm,.int .u8 tk,.string tn,.int .i64 tz,.slice ao m cap] 62)).alloc (.cells #[.int .i64 0,.bool false,.bool false,.bool false,.string ⟨#[]⟩] 139)).drew (two_heap hml _ _)
  clear h hM1 hx
  have a1:(xa == -1)=true:=beq_iff_eq.2 hA
  clear hA
  have hNM:=name_any nm hs
  rw [hM] at hNM
  have HNM:=hid hNM
  clear hNM hM
  have hq:=noty_is hz
  clear hz
  go_enter Try.func97,Try.ntmps97
  go_wp2_with fail
  go_region
  all_goals
    go_wp2_with (first|(go_at_call 62;refine (HNM.out _).mono ?_;rintro e w' ⟨rfl,rfl⟩)|(go_at_call 61;((with_reducible refine (must_yes _).mono ?_);rintro e w' ⟨rfl,rfl⟩))|(go_at_call 61;((with_reducible refine (must_no _).mono ?_);rintro e w' ⟨rfl,rfl⟩)))
    go_end0
    exact Ends.ok rfl HB.out
theorem form_zn_111 (B c i:Nat) (k n tk tz xa:Int) (nm tn xs:ByteArray) (ao:Option Addr) (m cap:Nat) (w:World) (h:Ck B c i w) (hx:wants k=some ⟨xa,true,true,false,xs⟩) (hA:xa = -1) (hs:nm.size≤9223372036854775807) (hM:isName nm.data.toList=true) (hz:noTy tk tn tz=false) :
    Calls Try.prog 97 #[.pointer (some ⟨c,0,none⟩),.agg #[.int .u8 k,.int .i64 n,.string nm,.int .u8 tk,.string tn,.int .i64 tz,.slice ao m cap]] w (Ends (1) w):=by
  have HB:=hid (below_two w (.cells #[.int .u8 k,.int .i64 n,.string nm,.int .u8 tk,.string tn,.int .i64 tz,.slice ao m cap] 62) (.cells #[.int .i64 xa,.bool true,.bool true,.bool false,.string xs] 139))
  have hc:=h.lt
  obtain⟨-,-,m1,m2,c0,-,hM1,-⟩:=h.reads
  have hml:=hM1.lt
  have hl1:=look_x2 hM1 hx (w.alloc (.cells #[.int .u8 k,.int .i64 n,.string nm,.int .u8 tk,.string tn,.int .i64 tz,.slice ao m cap] 62)).drew (Below.heap_alloc _ _ _ hml)
  have hl2:=look_x2 hM1 hx ((w.alloc (.cells #[.int .u8 k,.int .i64 n,.string nm,.int .u8 tk,.string tn,.int .i64 tz,.slice ao m cap] 62)).alloc (.cells #[.int .i64 0,.bool false,.bool false,.bool false,.string ⟨#[]⟩] 139)).drew (two_heap hml _ _)
  clear h hM1 hx
  have a1:(xa == -1)=true:=beq_iff_eq.2 hA
  clear hA
  have hNM:=name_any nm hs
  rw [hM] at hNM
  have HNM:=hid hNM
  clear hNM hM
  have hq:=noty_is hz
  clear hz
  go_enter Try.func97,Try.ntmps97
  go_wp2_with fail
  go_region
  all_goals
    go_wp2_with (first|(go_at_call 62;refine (HNM.out _).mono ?_;rintro e w' ⟨rfl,rfl⟩)|(go_at_call 61;((with_reducible refine (must_yes _).mono ?_);rintro e w' ⟨rfl,rfl⟩))|(go_at_call 61;((with_reducible refine (must_no _).mono ?_);rintro e w' ⟨rfl,rfl⟩)))
    exact⟨rfl,Ends.arg rfl HB.out⟩
theorem form_ty0_112 (B c i:Nat) (k n tk tz xa:Int) (nm tn xs:ByteArray) (ao:Option Addr) (m cap:Nat) (w:World) (h:Ck B c i w) (hx:wants k=some ⟨xa,true,false,true,xs⟩) (hA:xa = -1) (hM:nm.data.toList = []) (h2:¬ tk=2) (h3:¬ tk=3) :
    Calls Try.prog 97 #[.pointer (some ⟨c,0,none⟩),.agg #[.int .u8 k,.int .i64 n,.string nm,.int .u8 tk,.string tn,.int .i64 tz,.slice ao m cap]] w (Ends (1) w):=by
  have HB:=hid (below_two w (.cells #[.int .u8 k,.int .i64 n,.string nm,.int .u8 tk,.string tn,.int .i64 tz,.slice ao m cap] 62) (.cells #[.int .i64 xa,.bool true,.bool false,.bool true,.string xs] 139))
  have hc:=h.lt
  obtain⟨-,-,m1,m2,c0,-,hM1,-⟩:=h.reads
  have hml:=hM1.lt
  have hl1:=look_x2 hM1 hx (w.alloc (.cells #[.int .u8 k,.int .i64 n,.string nm,.int .u8 tk,.string tn,.int .i64 tz,.slice ao m cap] 62)).drew (Below.heap_alloc _ _ _ hml)
  have hl2:=look_x2 hM1 hx ((w.alloc (.cells #[.int .u8 k,.int .i64 n,.string nm,.int .u8 tk,.string tn,.int .i64 tz,.slice ao m cap] 62)).alloc (.cells #[.int .i64 0,.bool false,.bool false,.bool false,.string ⟨#[]⟩] 139)).drew (two_heap hml _ _)
  clear h hM1 hx
  have a1:(xa == -1)=true:=beq_iff_eq.2 hA
  clear hA
  have t1:=emp_yes hM
  have t2:=nil_yes hM
  clear hM
  have u2:(tk == 2)=false:=beq_eq_false_iff_ne.2 h2
  have u3:(tk == 3)=false:=beq_eq_false_iff_ne.2 h3
  clear h2 h3
  go_enter Try.func97,Try.ntmps97
  go_wp2_with fail
  go_region
  all_goals
    go_wp2_with (first|(go_at_call 61;((with_reducible refine (must_yes _).mono ?_);rintro e w' ⟨rfl,rfl⟩))|(go_at_call 61;((with_reducible refine (must_no _).mono ?_);rintro e w' ⟨rfl,rfl⟩)))
    exact⟨rfl,Ends.arg rfl HB.out⟩
theorem form_zy_112 (B c i:Nat) (k n tk tz xa:Int) (nm tn xs:ByteArray) (ao:Option Addr) (m cap:Nat) (w:World) (h:Ck B c i w) (hx:wants k=some ⟨xa,true,false,false,xs⟩) (hA:xa = -1) (hM:nm.data.toList = []) (hz:noTy tk tn tz=true) :
    Calls Try.prog 97 #[.pointer (some ⟨c,0,none⟩),.agg #[.int .u8 k,.int .i64 n,.string nm,.int .u8 tk,.string tn,.int .i64 tz,.slice ao m cap]] w (Ends (0) w):=by
  have HB:=hid (below_two w (.cells #[.int .u8 k,.int .i64 n,.string nm,.int .u8 tk,.string tn,.int .i64 tz,.slice ao m cap] 62) (.cells #[.int .i64 xa,.bool true,.bool false,.bool false,.string xs] 139))
  have hc:=h.lt
  obtain⟨-,-,m1,m2,c0,-,hM1,-⟩:=h.reads
  have hml:=hM1.lt
  have hl1:=look_x2 hM1 hx (w.alloc (.cells #[.int .u8 k,.int .i64 n,.string nm,.int .u8 tk,.string tn,.int .i64 tz,.slice ao m cap] 62)).drew (Below.heap_alloc _ _ _ hml)
  have hl2:=look_x2 hM1 hx ((w.alloc (.cells #[.int .u8 k,.int .i64 n,.string nm,.int .u8 tk,.string tn,.int .i64 tz,.slice ao m cap] 62)).alloc (.cells #[.int .i64 0,.bool false,.bool false,.bool false,.string ⟨#[]⟩] 139)).drew (two_heap hml _ _)
  clear h hM1 hx
  have a1:(xa == -1)=true:=beq_iff_eq.2 hA
  clear hA
  have t1:=emp_yes hM
  have t2:=nil_yes hM
  clear hM
  have hq:=noty_is hz
  clear hz
  go_enter Try.func97,Try.ntmps97
  go_wp2_with fail
  go_region
  all_goals
    go_wp2_with (first|(go_at_call 61;((with_reducible refine (must_yes _).mono ?_);rintro e w' ⟨rfl,rfl⟩))|(go_at_call 61;((with_reducible refine (must_no _).mono ?_);rintro e w' ⟨rfl,rfl⟩)))
    go_end0
    exact Ends.ok rfl HB.out
theorem form_zn_112 (B c i:Nat) (k n tk tz xa:Int) (nm tn xs:ByteArray) (ao:Option Addr) (m cap:Nat) (w:World) (h:Ck B c i w) (hx:wants k=some ⟨xa,true,false,false,xs⟩) (hA:xa = -1) (hM:nm.data.toList = []) (hz:noTy tk tn tz=false) :
    Calls Try.prog 97 #[.pointer (some ⟨c,0,none⟩),.agg #[.int .u8 k,.int .i64 n,.string nm,.int .u8 tk,.string tn,.int .i64 tz,.slice ao m cap]] w (Ends (1) w):=by
  have HB:=hid (below_two w (.cells #[.int .u8 k,.int .i64 n,.string nm,.int .u8 tk,.string tn,.int .i64 tz,.slice ao m cap] 62) (.cells #[.int .i64 xa,.bool true,.bool false,.bool false,.string xs] 139))
  have hc:=h.lt
  obtain⟨-,-,m1,m2,c0,-,hM1,-⟩:=h.reads
  have hml:=hM1.lt
  have hl1:=look_x2 hM1 hx (w.alloc (.cells #[.int .u8 k,.int .i64 n,.string nm,.int .u8 tk,.string tn,.int .i64 tz,.slice ao m cap] 62)).drew (Below.heap_alloc _ _ _ hml)
  have hl2:=look_x2 hM1 hx ((w.alloc (.cells #[.int .u8 k,.int .i64 n,.string nm,.int .u8 tk,.string tn,.int .i64 tz,.slice ao m cap] 62)).alloc (.cells #[.int .i64 0,.bool false,.bool false,.bool false,.string ⟨#[]⟩] 139)).drew (two_heap hml _ _)
  clear h hM1 hx
  have a1:(xa == -1)=true:=beq_iff_eq.2 hA
  clear hA
  have t1:=emp_yes hM
  have t2:=nil_yes hM
  clear hM
  have hq:=noty_is hz
  clear hz
  go_enter Try.func97,Try.ntmps97
  go_wp2_with fail
  go_region
  all_goals
    go_wp2_with (first|(go_at_call 61;((with_reducible refine (must_yes _).mono ?_);rintro e w' ⟨rfl,rfl⟩))|(go_at_call 61;((with_reducible refine (must_no _).mono ?_);rintro e w' ⟨rfl,rfl⟩)))
    exact⟨rfl,Ends.arg rfl HB.out⟩
theorem form_ty0_121 (B c i:Nat) (k n tk tz xa:Int) (nm tn xs:ByteArray) (ao:Option Addr) (m cap:Nat) (w:World) (h:Ck B c i w) (hx:wants k=some ⟨xa,false,true,true,xs⟩) (hA:xa = -1) (hN:n=0) (hs:nm.size≤9223372036854775807) (hM:isName nm.data.toList=true) (h2:¬ tk=2) (h3:¬ tk=3) :
    Calls Try.prog 97 #[.pointer (some ⟨c,0,none⟩),.agg #[.int .u8 k,.int .i64 n,.string nm,.int .u8 tk,.string tn,.int .i64 tz,.slice ao m cap]] w (Ends (1) w):=by
  have HB:=hid (below_two w (.cells #[.int .u8 k,.int .i64 n,.string nm,.int .u8 tk,.string tn,.int .i64 tz,.slice ao m cap] 62) (.cells #[.int .i64 xa,.bool false,.bool true,.bool true,.string xs] 139))
  have hc:=h.lt
  obtain⟨-,-,m1,m2,c0,-,hM1,-⟩:=h.reads
  have hml:=hM1.lt
  have hl1:=look_x2 hM1 hx (w.alloc (.cells #[.int .u8 k,.int .i64 n,.string nm,.int .u8 tk,.string tn,.int .i64 tz,.slice ao m cap] 62)).drew (Below.heap_alloc _ _ _ hml)
  have hl2:=look_x2 hM1 hx ((w.alloc (.cells #[.int .u8 k,.int .i64 n,.string nm,.int .u8 tk,.string tn,.int .i64 tz,.slice ao m cap] 62)).alloc (.cells #[.int .i64 0,.bool false,.bool false,.bool false,.string ⟨#[]⟩] 139)).drew (two_heap hml _ _)
  clear h hM1 hx
  have a1:(xa == -1)=true:=beq_iff_eq.2 hA
  clear hA
  subst hN
  have hNM:=name_any nm hs
  rw [hM] at hNM
  have HNM:=hid hNM
  clear hNM hM
  have u2:(tk == 2)=false:=beq_eq_false_iff_ne.2 h2
  have u3:(tk == 3)=false:=beq_eq_false_iff_ne.2 h3
  clear h2 h3
  go_enter Try.func97,Try.ntmps97
  go_wp2_with fail
  go_region
  all_goals
    go_wp2_with (first|(go_at_call 62;refine (HNM.out _).mono ?_;rintro e w' ⟨rfl,rfl⟩)|(go_at_call 61;((with_reducible refine (must_yes _).mono ?_);rintro e w' ⟨rfl,rfl⟩))|(go_at_call 61;((with_reducible refine (must_no _).mono ?_);rintro e w' ⟨rfl,rfl⟩)))
    exact⟨rfl,Ends.arg rfl HB.out⟩
theorem form_zy_121 (B c i:Nat) (k n tk tz xa:Int) (nm tn xs:ByteArray) (ao:Option Addr) (m cap:Nat) (w:World) (h:Ck B c i w) (hx:wants k=some ⟨xa,false,true,false,xs⟩) (hA:xa = -1) (hN:n=0) (hs:nm.size≤9223372036854775807) (hM:isName nm.data.toList=true) (hz:noTy tk tn tz=true) :
    Calls Try.prog 97 #[.pointer (some ⟨c,0,none⟩),.agg #[.int .u8 k,.int .i64 n,.string nm,.int .u8 tk,.string tn,.int .i64 tz,.slice ao m cap]] w (Ends (0) w):=by
  have HB:=hid (below_two w (.cells #[.int .u8 k,.int .i64 n,.string nm,.int .u8 tk,.string tn,.int .i64 tz,.slice ao m cap] 62) (.cells #[.int .i64 xa,.bool false,.bool true,.bool false,.string xs] 139))
  have hc:=h.lt
  obtain⟨-,-,m1,m2,c0,-,hM1,-⟩:=h.reads
  have hml:=hM1.lt
  have hl1:=look_x2 hM1 hx (w.alloc (.cells #[.int .u8 k,.int .i64 n,.string nm,.int .u8 tk,.string tn,.int .i64 tz,.slice ao m cap] 62)).drew (Below.heap_alloc _ _ _ hml)
  have hl2:=look_x2 hM1 hx ((w.alloc (.cells #[.int .u8 k,.int .i64 n,.string nm,.int .u8 tk,.string tn,.int .i64 tz,.slice ao m cap] 62)).alloc (.cells #[.int .i64 0,.bool false,.bool false,.bool false,.string ⟨#[]⟩] 139)).drew (two_heap hml _ _)
  clear h hM1 hx
  have a1:(xa == -1)=true:=beq_iff_eq.2 hA
  clear hA
  subst hN
  have hNM:=name_any nm hs
  rw [hM] at hNM
  have HNM:=hid hNM
  clear hNM hM
  have hq:=noty_is hz
  clear hz
  go_enter Try.func97,Try.ntmps97
  go_wp2_with fail
  go_region
  all_goals
    go_wp2_with (first|(go_at_call 62;refine (HNM.out _).mono ?_;rintro e w' ⟨rfl,rfl⟩)|(go_at_call 61;((with_reducible refine (must_yes _).mono ?_);rintro e w' ⟨rfl,rfl⟩))|(go_at_call 61;((with_reducible refine (must_no _).mono ?_);rintro e w' ⟨rfl,rfl⟩)))
    go_end0
    exact Ends.ok rfl HB.out
theorem form_zn_121 (B c i:Nat) (k n tk tz xa:Int) (nm tn xs:ByteArray) (ao:Option Addr) (m cap:Nat) (w:World) (h:Ck B c i w) (hx:wants k=some ⟨xa,false,true,false,xs⟩) (hA:xa = -1) (hN:n=0) (hs:nm.size≤9223372036854775807) (hM:isName nm.data.toList=true) (hz:noTy tk tn tz=false) :
    Calls Try.prog 97 #[.pointer (some ⟨c,0,none⟩),.agg #[.int .u8 k,.int .i64 n,.string nm,.int .u8 tk,.string tn,.int .i64 tz,.slice ao m cap]] w (Ends (1) w):=by
  have HB:=hid (below_two w (.cells #[.int .u8 k,.int .i64 n,.string nm,.int .u8 tk,.string tn,.int .i64 tz,.slice ao m cap] 62) (.cells #[.int .i64 xa,.bool false,.bool true,.bool false,.string xs] 139))
  have hc:=h.lt
  obtain⟨-,-,m1,m2,c0,-,hM1,-⟩:=h.reads
  have hml:=hM1.lt
  have hl1:=look_x2 hM1 hx (w.alloc (.cells #[.int .u8 k,.int .i64 n,.string nm,.int .u8 tk,.string tn,.int .i64 tz,.slice ao m cap] 62)).drew (Below.heap_alloc _ _ _ hml)
  have hl2:=look_x2 hM1 hx ((w.alloc (.cells #[.int .u8 k,.int .i64 n,.string nm,.int .u8 tk,.string tn,.int .i64 tz,.slice ao m cap] 62)).alloc (.cells #[.int .i64 0,.bool false,.bool false,.bool false,.string ⟨#[]⟩] 139)).drew (two_heap hml _ _)
  clear h hM1 hx
  have a1:(xa == -1)=true:=beq_iff_eq.2 hA
  clear hA
  subst hN
  have hNM:=name_any nm hs
  rw [hM] at hNM
  have HNM:=hid hNM
  clear hNM hM
  have hq:=noty_is hz
  clear hz
  go_enter Try.func97,Try.ntmps97
  go_wp2_with fail
  go_region
  all_goals
    go_wp2_with (first|(go_at_call 62;refine (HNM.out _).mono ?_;rintro e w' ⟨rfl,rfl⟩)|(go_at_call 61;((with_reducible refine (must_yes _).mono ?_);rintro e w' ⟨rfl,rfl⟩))|(go_at_call 61;((with_reducible refine (must_no _).mono ?_);rintro e w' ⟨rfl,rfl⟩)))
    exact⟨rfl,Ends.arg rfl HB.out⟩
theorem form_ty0_122 (B c i:Nat) (k n tk tz xa:Int) (nm tn xs:ByteArray) (ao:Option Addr) (m cap:Nat) (w:World) (h:Ck B c i w) (hx:wants k=some ⟨xa,false,false,true,xs⟩) (hA:xa = -1) (hN:n=0) (hM:nm.data.toList = []) (h2:¬ tk=2) (h3:¬ tk=3) :
    Calls Try.prog 97 #[.pointer (some ⟨c,0,none⟩),.agg #[.int .u8 k,.int .i64 n,.string nm,.int .u8 tk,.string tn,.int .i64 tz,.slice ao m cap]] w (Ends (1) w):=by
  have HB:=hid (below_two w (.cells #[.int .u8 k,.int .i64 n,.string nm,.int .u8 tk,.string tn,.int .i64 tz,.slice ao m cap] 62) (.cells #[.int .i64 xa,.bool false,.bool false,.bool true,.string xs] 139))
  have hc:=h.lt
  obtain⟨-,-,m1,m2,c0,-,hM1,-⟩:=h.reads
  have hml:=hM1.lt
  have hl1:=look_x2 hM1 hx (w.alloc (.cells #[.int .u8 k,.int .i64 n,.string nm,.int .u8 tk,.string tn,.int .i64 tz,.slice ao m cap] 62)).drew (Below.heap_alloc _ _ _ hml)
  have hl2:=look_x2 hM1 hx ((w.alloc (.cells #[.int .u8 k,.int .i64 n,.string nm,.int .u8 tk,.string tn,.int .i64 tz,.slice ao m cap] 62)).alloc (.cells #[.int .i64 0,.bool false,.bool false,.bool false,.string ⟨#[]⟩] 139)).drew (two_heap hml _ _)
  clear h hM1 hx
  have a1:(xa == -1)=true:=beq_iff_eq.2 hA
  clear hA
  subst hN
  have t1:=emp_yes hM
  have t2:=nil_yes hM
  clear hM
  have u2:(tk == 2)=false:=beq_eq_false_iff_ne.2 h2
  have u3:(tk == 3)=false:=beq_eq_false_iff_ne.2 h3
  clear h2 h3
  go_enter Try.func97,Try.ntmps97
  go_wp2_with fail
  go_region
  all_goals
    go_wp2_with (first|(go_at_call 61;((with_reducible refine (must_yes _).mono ?_);rintro e w' ⟨rfl,rfl⟩))|(go_at_call 61;((with_reducible refine (must_no _).mono ?_);rintro e w' ⟨rfl,rfl⟩)))
    exact⟨rfl,Ends.arg rfl HB.out⟩
theorem form_zy_122 (B c i:Nat) (k n tk tz xa:Int) (nm tn xs:ByteArray) (ao:Option Addr) (m cap:Nat) (w:World) (h:Ck B c i w) (hx:wants k=some ⟨xa,false,false,false,xs⟩) (hA:xa = -1) (hN:n=0) (hM:nm.data.toList = []) (hz:noTy tk tn tz=true) :
    Calls Try.prog 97 #[.pointer (some ⟨c,0,none⟩),.agg #[.int .u8 k,.int .i64 n,.string nm,.int .u8 tk,.string tn,.int .i64 tz,.slice ao m cap]] w (Ends (0) w):=by
  have HB:=hid (below_two w (.cells #[.int .u8 k,.int .i64 n,.string nm,.int .u8 tk,.string tn,.int .i64 tz,.slice ao m cap] 62) (.cells #[.int .i64 xa,.bool false,.bool false,.bool false,.string xs] 139))
  have hc:=h.lt
  obtain⟨-,-,m1,m2,c0,-,hM1,-⟩:=h.reads
  have hml:=hM1.lt
  have hl1:=look_x2 hM1 hx (w.alloc (.cells #[.int .u8 k,.int .i64 n,.string nm,.int .u8 tk,.string tn,.int .i64 tz,.slice ao m cap] 62)).drew (Below.heap_alloc _ _ _ hml)
  have hl2:=look_x2 hM1 hx ((w.alloc (.cells #[.int .u8 k,.int .i64 n,.string nm,.int .u8 tk,.string tn,.int .i64 tz,.slice ao m cap] 62)).alloc (.cells #[.int .i64 0,.bool false,.bool false,.bool false,.string ⟨#[]⟩] 139)).drew (two_heap hml _ _)
  clear h hM1 hx
  have a1:(xa == -1)=true:=beq_iff_eq.2 hA
  clear hA
  subst hN
  have t1:=emp_yes hM
  have t2:=nil_yes hM
  clear hM
  have hq:=noty_is hz
  clear hz
  go_enter Try.func97,Try.ntmps97
  go_wp2_with fail
  go_region
  all_goals
    go_wp2_with (first|(go_at_call 61;((with_reducible refine (must_yes _).mono ?_);rintro e w' ⟨rfl,rfl⟩))|(go_at_call 61;((with_reducible refine (must_no _).mono ?_);rintro e w' ⟨rfl,rfl⟩)))
    go_end0
    exact Ends.ok rfl HB.out
theorem form_zn_122 (B c i:Nat) (k n tk tz xa:Int) (nm tn xs:ByteArray) (ao:Option Addr) (m cap:Nat) (w:World) (h:Ck B c i w) (hx:wants k=some ⟨xa,false,false,false,xs⟩) (hA:xa = -1) (hN:n=0) (hM:nm.data.toList = []) (hz:noTy tk tn tz=false) :
    Calls Try.prog 97 #[.pointer (some ⟨c,0,none⟩),.agg #[.int .u8 k,.int .i64 n,.string nm,.int .u8 tk,.string tn,.int .i64 tz,.slice ao m cap]] w (Ends (1) w):=by
  have HB:=hid (below_two w (.cells #[.int .u8 k,.int .i64 n,.string nm,.int .u8 tk,.string tn,.int .i64 tz,.slice ao m cap] 62) (.cells #[.int .i64 xa,.bool false,.bool false,.bool false,.string xs] 139))
  have hc:=h.lt
  obtain⟨-,-,m1,m2,c0,-,hM1,-⟩:=h.reads
  have hml:=hM1.lt
  have hl1:=look_x2 hM1 hx (w.alloc (.cells #[.int .u8 k,.int .i64 n,.string nm,.int .u8 tk,.string tn,.int .i64 tz,.slice ao m cap] 62)).drew (Below.heap_alloc _ _ _ hml)
  have hl2:=look_x2 hM1 hx ((w.alloc (.cells #[.int .u8 k,.int .i64 n,.string nm,.int .u8 tk,.string tn,.int .i64 tz,.slice ao m cap] 62)).alloc (.cells #[.int .i64 0,.bool false,.bool false,.bool false,.string ⟨#[]⟩] 139)).drew (two_heap hml _ _)
  clear h hM1 hx
  have a1:(xa == -1)=true:=beq_iff_eq.2 hA
  clear hA
  subst hN
  have t1:=emp_yes hM
  have t2:=nil_yes hM
  clear hM
  have hq:=noty_is hz
  clear hz
  go_enter Try.func97,Try.ntmps97
  go_wp2_with fail
  go_region
  all_goals
    go_wp2_with (first|(go_at_call 61;((with_reducible refine (must_yes _).mono ?_);rintro e w' ⟨rfl,rfl⟩))|(go_at_call 61;((with_reducible refine (must_no _).mono ?_);rintro e w' ⟨rfl,rfl⟩)))
    exact⟨rfl,Ends.arg rfl HB.out⟩
theorem form_ty0_211 (B c i:Nat) (k n tk tz xa:Int) (nm tn xs:ByteArray) (ao:Option Addr) (m cap:Nat) (w:World) (h:Ck B c i w) (hx:wants k=some ⟨xa,true,true,true,xs⟩) (hA:¬ xa = -1) (hA2:(m:Int)=xa) (hs:nm.size≤9223372036854775807) (hM:isName nm.data.toList=true) (h2:¬ tk=2) (h3:¬ tk=3) :
    Calls Try.prog 97 #[.pointer (some ⟨c,0,none⟩),.agg #[.int .u8 k,.int .i64 n,.string nm,.int .u8 tk,.string tn,.int .i64 tz,.slice ao m cap]] w (Ends (1) w):=by
  have HB:=hid (below_two w (.cells #[.int .u8 k,.int .i64 n,.string nm,.int .u8 tk,.string tn,.int .i64 tz,.slice ao m cap] 62) (.cells #[.int .i64 xa,.bool true,.bool true,.bool true,.string xs] 139))
  have hc:=h.lt
  obtain⟨-,-,m1,m2,c0,-,hM1,-⟩:=h.reads
  have hml:=hM1.lt
  have hl1:=look_x2 hM1 hx (w.alloc (.cells #[.int .u8 k,.int .i64 n,.string nm,.int .u8 tk,.string tn,.int .i64 tz,.slice ao m cap] 62)).drew (Below.heap_alloc _ _ _ hml)
  have hl2:=look_x2 hM1 hx ((w.alloc (.cells #[.int .u8 k,.int .i64 n,.string nm,.int .u8 tk,.string tn,.int .i64 tz,.slice ao m cap] 62)).alloc (.cells #[.int .i64 0,.bool false,.bool false,.bool false,.string ⟨#[]⟩] 139)).drew (two_heap hml _ _)
  clear h hM1 hx
  have a1:(xa == -1)=false:=beq_eq_false_iff_ne.2 hA
  have a2:((m:Int) == xa)=true:=beq_iff_eq.2 hA2
  clear hA hA2
  have hNM:=name_any nm hs
  rw [hM] at hNM
  have HNM:=hid hNM
  clear hNM hM
  have u2:(tk == 2)=false:=beq_eq_false_iff_ne.2 h2
  have u3:(tk == 3)=false:=beq_eq_false_iff_ne.2 h3
  clear h2 h3
  go_enter Try.func97,Try.ntmps97
  go_wp2_with fail
  go_region
  all_goals
    go_wp2_with (first|(go_at_call 62;refine (HNM.out _).mono ?_;rintro e w' ⟨rfl,rfl⟩)|(go_at_call 61;((with_reducible refine (must_yes _).mono ?_);rintro e w' ⟨rfl,rfl⟩))|(go_at_call 61;((with_reducible refine (must_no _).mono ?_);rintro e w' ⟨rfl,rfl⟩)))
    exact⟨rfl,Ends.arg rfl HB.out⟩
theorem form_zy_211 (B c i:Nat) (k n tk tz xa:Int) (nm tn xs:ByteArray) (ao:Option Addr) (m cap:Nat) (w:World) (h:Ck B c i w) (hx:wants k=some ⟨xa,true,true,false,xs⟩) (hA:¬ xa = -1) (hA2:(m:Int)=xa) (hs:nm.size≤9223372036854775807) (hM:isName nm.data.toList=true) (hz:noTy tk tn tz=true) :
    Calls Try.prog 97 #[.pointer (some ⟨c,0,none⟩),.agg #[.int .u8 k,.int .i64 n,.string nm,.int .u8 tk,.string tn,.int .i64 tz,.slice ao m cap]] w (Ends (0) w):=by
  have HB:=hid (below_two w (.cells #[.int .u8 k,.int .i64 n,.string nm,.int .u8 tk,.string tn,.int .i64 tz,.slice ao m cap] 62) (.cells #[.int .i64 xa,.bool true,.bool true,.bool false,.string xs] 139))
  have hc:=h.lt
  obtain⟨-,-,m1,m2,c0,-,hM1,-⟩:=h.reads
  have hml:=hM1.lt
  have hl1:=look_x2 hM1 hx (w.alloc (.cells #[.int .u8 k,.int .i64 n,.string nm,.int .u8 tk,.string tn,.int .i64 tz,.slice ao m cap] 62)).drew (Below.heap_alloc _ _ _ hml)
  have hl2:=look_x2 hM1 hx ((w.alloc (.cells #[.int .u8 k,.int .i64 n,.string nm,.int .u8 tk,.string tn,.int .i64 tz,.slice ao m cap] 62)).alloc (.cells #[.int .i64 0,.bool false,.bool false,.bool false,.string ⟨#[]⟩] 139)).drew (two_heap hml _ _)
  clear h hM1 hx
  have a1:(xa == -1)=false:=beq_eq_false_iff_ne.2 hA
  have a2:((m:Int) == xa)=true:=beq_iff_eq.2 hA2
  clear hA hA2
  have hNM:=name_any nm hs
  rw [hM] at hNM
  have HNM:=hid hNM
  clear hNM hM
  have hq:=noty_is hz
  clear hz
  go_enter Try.func97,Try.ntmps97
  go_wp2_with fail
  go_region
  all_goals
    go_wp2_with (first|(go_at_call 62;refine (HNM.out _).mono ?_;rintro e w' ⟨rfl,rfl⟩)|(go_at_call 61;((with_reducible refine (must_yes _).mono ?_);rintro e w' ⟨rfl,rfl⟩))|(go_at_call 61;((with_reducible refine (must_no _).mono ?_);rintro e w' ⟨rfl,rfl⟩)))
    go_end0
    exact Ends.ok rfl HB.out
theorem form_zn_211 (B c i:Nat) (k n tk tz xa:Int) (nm tn xs:ByteArray) (ao:Option Addr) (m cap:Nat) (w:World) (h:Ck B c i w) (hx:wants k=some ⟨xa,true,true,false,xs⟩) (hA:¬ xa = -1) (hA2:(m:Int)=xa) (hs:nm.size≤9223372036854775807) (hM:isName nm.data.toList=true) (hz:noTy tk tn tz=false) :
    Calls Try.prog 97 #[.pointer (some ⟨c,0,none⟩),.agg #[.int .u8 k,.int .i64 n,.string nm,.int .u8 tk,.string tn,.int .i64 tz,.slice ao m cap]] w (Ends (1) w):=by
  have HB:=hid (below_two w (.cells #[.int .u8 k,.int .i64 n,.string nm,.int .u8 tk,.string tn,.int .i64 tz,.slice ao m cap] 62) (.cells #[.int .i64 xa,.bool true,.bool true,.bool false,.string xs] 139))
  have hc:=h.lt
  obtain⟨-,-,m1,m2,c0,-,hM1,-⟩:=h.reads
  have hml:=hM1.lt
  have hl1:=look_x2 hM1 hx (w.alloc (.cells #[.int .u8 k,.int .i64 n,.string nm,.int .u8 tk,.string tn,.int .i64 tz,.slice ao m cap] 62)).drew (Below.heap_alloc _ _ _ hml)
  have hl2:=look_x2 hM1 hx ((w.alloc (.cells #[.int .u8 k,.int .i64 n,.string nm,.int .u8 tk,.string tn,.int .i64 tz,.slice ao m cap] 62)).alloc (.cells #[.int .i64 0,.bool false,.bool false,.bool false,.string ⟨#[]⟩] 139)).drew (two_heap hml _ _)
  clear h hM1 hx
  have a1:(xa == -1)=false:=beq_eq_false_iff_ne.2 hA
  have a2:((m:Int) == xa)=true:=beq_iff_eq.2 hA2
  clear hA hA2
  have hNM:=name_any nm hs
  rw [hM] at hNM
  have HNM:=hid hNM
  clear hNM hM
  have hq:=noty_is hz
  clear hz
  go_enter Try.func97,Try.ntmps97
  go_wp2_with fail
  go_region
  all_goals
    go_wp2_with (first|(go_at_call 62;refine (HNM.out _).mono ?_;rintro e w' ⟨rfl,rfl⟩)|(go_at_call 61;((with_reducible refine (must_yes _).mono ?_);rintro e w' ⟨rfl,rfl⟩))|(go_at_call 61;((with_reducible refine (must_no _).mono ?_);rintro e w' ⟨rfl,rfl⟩)))
    exact⟨rfl,Ends.arg rfl HB.out⟩
theorem form_ty0_212 (B c i:Nat) (k n tk tz xa:Int) (nm tn xs:ByteArray) (ao:Option Addr) (m cap:Nat) (w:World) (h:Ck B c i w) (hx:wants k=some ⟨xa,true,false,true,xs⟩) (hA:¬ xa = -1) (hA2:(m:Int)=xa) (hM:nm.data.toList = []) (h2:¬ tk=2) (h3:¬ tk=3) :
    Calls Try.prog 97 #[.pointer (some ⟨c,0,none⟩),.agg #[.int .u8 k,.int .i64 n,.string nm,.int .u8 tk,.string tn,.int .i64 tz,.slice ao m cap]] w (Ends (1) w):=by
  have HB:=hid (below_two w (.cells #[.int .u8 k,.int .i64 n,.string nm,.int .u8 tk,.string tn,.int .i64 tz,.slice ao m cap] 62) (.cells #[.int .i64 xa,.bool true,.bool false,.bool true,.string xs] 139))
  have hc:=h.lt
  obtain⟨-,-,m1,m2,c0,-,hM1,-⟩:=h.reads
  have hml:=hM1.lt
  have hl1:=look_x2 hM1 hx (w.alloc (.cells #[.int .u8 k,.int .i64 n,.string nm,.int .u8 tk,.string tn,.int .i64 tz,.slice ao m cap] 62)).drew (Below.heap_alloc _ _ _ hml)
  have hl2:=look_x2 hM1 hx ((w.alloc (.cells #[.int .u8 k,.int .i64 n,.string nm,.int .u8 tk,.string tn,.int .i64 tz,.slice ao m cap] 62)).alloc (.cells #[.int .i64 0,.bool false,.bool false,.bool false,.string ⟨#[]⟩] 139)).drew (two_heap hml _ _)
  clear h hM1 hx
  have a1:(xa == -1)=false:=beq_eq_false_iff_ne.2 hA
  have a2:((m:Int) == xa)=true:=beq_iff_eq.2 hA2
  clear hA hA2
  have t1:=emp_yes hM
  have t2:=nil_yes hM
  clear hM
  have u2:(tk == 2)=false:=beq_eq_false_iff_ne.2 h2
  have u3:(tk == 3)=false:=beq_eq_false_iff_ne.2 h3
  clear h2 h3
  go_enter Try.func97,Try.ntmps97
  go_wp2_with fail
  go_region
  all_goals
    go_wp2_with (first|(go_at_call 61;((with_reducible refine (must_yes _).mono ?_);rintro e w' ⟨rfl,rfl⟩))|(go_at_call 61;((with_reducible refine (must_no _).mono ?_);rintro e w' ⟨rfl,rfl⟩)))
    exact⟨rfl,Ends.arg rfl HB.out⟩
theorem form_zy_212 (B c i:Nat) (k n tk tz xa:Int) (nm tn xs:ByteArray) (ao:Option Addr) (m cap:Nat) (w:World) (h:Ck B c i w) (hx:wants k=some ⟨xa,true,false,false,xs⟩) (hA:¬ xa = -1) (hA2:(m:Int)=xa) (hM:nm.data.toList = []) (hz:noTy tk tn tz=true) :
    Calls Try.prog 97 #[.pointer (some ⟨c,0,none⟩),.agg #[.int .u8 k,.int .i64 n,.string nm,.int .u8 tk,.string tn,.int .i64 tz,.slice ao m cap]] w (Ends (0) w):=by
  have HB:=hid (below_two w (.cells #[.int .u8 k,.int .i64 n,.string nm,.int .u8 tk,.string tn,.int .i64 tz,.slice ao m cap] 62) (.cells #[.int .i64 xa,.bool true,.bool false,.bool false,.string xs] 139))
  have hc:=h.lt
  obtain⟨-,-,m1,m2,c0,-,hM1,-⟩:=h.reads
  have hml:=hM1.lt
  have hl1:=look_x2 hM1 hx (w.alloc (.cells #[.int .u8 k,.int .i64 n,.string nm,.int .u8 tk,.string tn,.int .i64 tz,.slice ao m cap] 62)).drew (Below.heap_alloc _ _ _ hml)
  have hl2:=look_x2 hM1 hx ((w.alloc (.cells #[.int .u8 k,.int .i64 n,.string nm,.int .u8 tk,.string tn,.int .i64 tz,.slice ao m cap] 62)).alloc (.cells #[.int .i64 0,.bool false,.bool false,.bool false,.string ⟨#[]⟩] 139)).drew (two_heap hml _ _)
  clear h hM1 hx
  have a1:(xa == -1)=false:=beq_eq_false_iff_ne.2 hA
  have a2:((m:Int) == xa)=true:=beq_iff_eq.2 hA2
  clear hA hA2
  have t1:=emp_yes hM
  have t2:=nil_yes hM
  clear hM
  have hq:=noty_is hz
  clear hz
  go_enter Try.func97,Try.ntmps97
  go_wp2_with fail
  go_region
  all_goals
    go_wp2_with (first|(go_at_call 61;((with_reducible refine (must_yes _).mono ?_);rintro e w' ⟨rfl,rfl⟩))|(go_at_call 61;((with_reducible refine (must_no _).mono ?_);rintro e w' ⟨rfl,rfl⟩)))
    go_end0
    exact Ends.ok rfl HB.out
theorem form_zn_212 (B c i:Nat) (k n tk tz xa:Int) (nm tn xs:ByteArray) (ao:Option Addr) (m cap:Nat) (w:World) (h:Ck B c i w) (hx:wants k=some ⟨xa,true,false,false,xs⟩) (hA:¬ xa = -1) (hA2:(m:Int)=xa) (hM:nm.data.toList = []) (hz:noTy tk tn tz=false) :
    Calls Try.prog 97 #[.pointer (some ⟨c,0,none⟩),.agg #[.int .u8 k,.int .i64 n,.string nm,.int .u8 tk,.string tn,.int .i64 tz,.slice ao m cap]] w (Ends (1) w):=by
  have HB:=hid (below_two w (.cells #[.int .u8 k,.int .i64 n,.string nm,.int .u8 tk,.string tn,.int .i64 tz,.slice ao m cap] 62) (.cells #[.int .i64 xa,.bool true,.bool false,.bool false,.string xs] 139))
  have hc:=h.lt
  obtain⟨-,-,m1,m2,c0,-,hM1,-⟩:=h.reads
  have hml:=hM1.lt
  have hl1:=look_x2 hM1 hx (w.alloc (.cells #[.int .u8 k,.int .i64 n,.string nm,.int .u8 tk,.string tn,.int .i64 tz,.slice ao m cap] 62)).drew (Below.heap_alloc _ _ _ hml)
  have hl2:=look_x2 hM1 hx ((w.alloc (.cells #[.int .u8 k,.int .i64 n,.string nm,.int .u8 tk,.string tn,.int .i64 tz,.slice ao m cap] 62)).alloc (.cells #[.int .i64 0,.bool false,.bool false,.bool false,.string ⟨#[]⟩] 139)).drew (two_heap hml _ _)
  clear h hM1 hx
  have a1:(xa == -1)=false:=beq_eq_false_iff_ne.2 hA
  have a2:((m:Int) == xa)=true:=beq_iff_eq.2 hA2
  clear hA hA2
  have t1:=emp_yes hM
  have t2:=nil_yes hM
  clear hM
  have hq:=noty_is hz
  clear hz
  go_enter Try.func97,Try.ntmps97
  go_wp2_with fail
  go_region
  all_goals
    go_wp2_with (first|(go_at_call 61;((with_reducible refine (must_yes _).mono ?_);rintro e w' ⟨rfl,rfl⟩))|(go_at_call 61;((with_reducible refine (must_no _).mono ?_);rintro e w' ⟨rfl,rfl⟩)))
    exact⟨rfl,Ends.arg rfl HB.out⟩
theorem form_ty0_221 (B c i:Nat) (k n tk tz xa:Int) (nm tn xs:ByteArray) (ao:Option Addr) (m cap:Nat) (w:World) (h:Ck B c i w) (hx:wants k=some ⟨xa,false,true,true,xs⟩) (hA:¬ xa = -1) (hA2:(m:Int)=xa) (hN:n=0) (hs:nm.size≤9223372036854775807) (hM:isName nm.data.toList=true) (h2:¬ tk=2) (h3:¬ tk=3) :
    Calls Try.prog 97 #[.pointer (some ⟨c,0,none⟩),.agg #[.int .u8 k,.int .i64 n,.string nm,.int .u8 tk,.string tn,.int .i64 tz,.slice ao m cap]] w (Ends (1) w):=by
  have HB:=hid (below_two w (.cells #[.int .u8 k,.int .i64 n,.string nm,.int .u8 tk,.string tn,.int .i64 tz,.slice ao m cap] 62) (.cells #[.int .i64 xa,.bool false,.bool true,.bool true,.string xs] 139))
  have hc:=h.lt
  obtain⟨-,-,m1,m2,c0,-,hM1,-⟩:=h.reads
  have hml:=hM1.lt
  have hl1:=look_x2 hM1 hx (w.alloc (.cells #[.int .u8 k,.int .i64 n,.string nm,.int .u8 tk,.string tn,.int .i64 tz,.slice ao m cap] 62)).drew (Below.heap_alloc _ _ _ hml)
  have hl2:=look_x2 hM1 hx ((w.alloc (.cells #[.int .u8 k,.int .i64 n,.string nm,.int .u8 tk,.string tn,.int .i64 tz,.slice ao m cap] 62)).alloc (.cells #[.int .i64 0,.bool false,.bool false,.bool false,.string ⟨#[]⟩] 139)).drew (two_heap hml _ _)
  clear h hM1 hx
  have a1:(xa == -1)=false:=beq_eq_false_iff_ne.2 hA
  have a2:((m:Int) == xa)=true:=beq_iff_eq.2 hA2
  clear hA hA2
  subst hN
  have hNM:=name_any nm hs
  rw [hM] at hNM
  have HNM:=hid hNM
  clear hNM hM
  have u2:(tk == 2)=false:=beq_eq_false_iff_ne.2 h2
  have u3:(tk == 3)=false:=beq_eq_false_iff_ne.2 h3
  clear h2 h3
  go_enter Try.func97,Try.ntmps97
  go_wp2_with fail
  go_region
  all_goals
    go_wp2_with (first|(go_at_call 62;refine (HNM.out _).mono ?_;rintro e w' ⟨rfl,rfl⟩)|(go_at_call 61;((with_reducible refine (must_yes _).mono ?_);rintro e w' ⟨rfl,rfl⟩))|(go_at_call 61;((with_reducible refine (must_no _).mono ?_);rintro e w' ⟨rfl,rfl⟩)))
    exact⟨rfl,Ends.arg rfl HB.out⟩
theorem form_zy_221 (B c i:Nat) (k n tk tz xa:Int) (nm tn xs:ByteArray) (ao:Option Addr) (m cap:Nat) (w:World) (h:Ck B c i w) (hx:wants k=some ⟨xa,false,true,false,xs⟩) (hA:¬ xa = -1) (hA2:(m:Int)=xa) (hN:n=0) (hs:nm.size≤9223372036854775807) (hM:isName nm.data.toList=true) (hz:noTy tk tn tz=true) :
    Calls Try.prog 97 #[.pointer (some ⟨c,0,none⟩),.agg #[.int .u8 k,.int .i64 n,.string nm,.int .u8 tk,.string tn,.int .i64 tz,.slice ao m cap]] w (Ends (0) w):=by
  have HB:=hid (below_two w (.cells #[.int .u8 k,.int .i64 n,.string nm,.int .u8 tk,.string tn,.int .i64 tz,.slice ao m cap] 62) (.cells #[.int .i64 xa,.bool false,.bool true,.bool false,.string xs] 139))
  have hc:=h.lt
  obtain⟨-,-,m1,m2,c0,-,hM1,-⟩:=h.reads
  have hml:=hM1.lt
  have hl1:=look_x2 hM1 hx (w.alloc (.cells #[.int .u8 k,.int .i64 n,.string nm,.int .u8 tk,.string tn,.int .i64 tz,.slice ao m cap] 62)).drew (Below.heap_alloc _ _ _ hml)
  have hl2:=look_x2 hM1 hx ((w.alloc (.cells #[.int .u8 k,.int .i64 n,.string nm,.int .u8 tk,.string tn,.int .i64 tz,.slice ao m cap] 62)).alloc (.cells #[.int .i64 0,.bool false,.bool false,.bool false,.string ⟨#[]⟩] 139)).drew (two_heap hml _ _)
  clear h hM1 hx
  have a1:(xa == -1)=false:=beq_eq_false_iff_ne.2 hA
  have a2:((m:Int) == xa)=true:=beq_iff_eq.2 hA2
  clear hA hA2
  subst hN
  have hNM:=name_any nm hs
  rw [hM] at hNM
  have HNM:=hid hNM
  clear hNM hM
  have hq:=noty_is hz
  clear hz
  go_enter Try.func97,Try.ntmps97
  go_wp2_with fail
  go_region
  all_goals
    go_wp2_with (first|(go_at_call 62;refine (HNM.out _).mono ?_;rintro e w' ⟨rfl,rfl⟩)|(go_at_call 61;((with_reducible refine (must_yes _).mono ?_);rintro e w' ⟨rfl,rfl⟩))|(go_at_call 61;((with_reducible refine (must_no _).mono ?_);rintro e w' ⟨rfl,rfl⟩)))
    go_end0
    exact Ends.ok rfl HB.out
theorem form_zn_221 (B c i:Nat) (k n tk tz xa:Int) (nm tn xs:ByteArray) (ao:Option Addr) (m cap:Nat) (w:World) (h:Ck B c i w) (hx:wants k=some ⟨xa,false,true,false,xs⟩) (hA:¬ xa = -1) (hA2:(m:Int)=xa) (hN:n=0) (hs:nm.size≤9223372036854775807) (hM:isName nm.data.toList=true) (hz:noTy tk tn tz=false) :
    Calls Try.prog 97 #[.pointer (some ⟨c,0,none⟩),.agg #[.int .u8 k,.int .i64 n,.string nm,.int .u8 tk,.string tn,.int .i64 tz,.slice ao m cap]] w (Ends (1) w):=by
  have HB:=hid (below_two w (.cells #[.int .u8 k,.int .i64 n,.string nm,.int .u8 tk,.string tn,.int .i64 tz,.slice ao m cap] 62) (.cells #[.int .i64 xa,.bool false,.bool true,.bool false,.string xs] 139))
  have hc:=h.lt
  obtain⟨-,-,m1,m2,c0,-,hM1,-⟩:=h.reads
  have hml:=hM1.lt
  have hl1:=look_x2 hM1 hx (w.alloc (.cells #[.int .u8 k,.int .i64 n,.string nm,.int .u8 tk,.string tn,.int .i64 tz,.slice ao m cap] 62)).drew (Below.heap_alloc _ _ _ hml)
  have hl2:=look_x2 hM1 hx ((w.alloc (.cells #[.int .u8 k,.int .i64 n,.string nm,.int .u8 tk,.string tn,.int .i64 tz,.slice ao m cap] 62)).alloc (.cells #[.int .i64 0,.bool false,.bool false,.bool false,.string ⟨#[]⟩] 139)).drew (two_heap hml _ _)
  clear h hM1 hx
  have a1:(xa == -1)=false:=beq_eq_false_iff_ne.2 hA
  have a2:((m:Int) == xa)=true:=beq_iff_eq.2 hA2
  clear hA hA2
  subst hN
  have hNM:=name_any nm hs
  rw [hM] at hNM
  have HNM:=hid hNM
  clear hNM hM
  have hq:=noty_is hz
  clear hz
  go_enter Try.func97,Try.ntmps97
  go_wp2_with fail
  go_region
  all_goals
    go_wp2_with (first|(go_at_call 62;refine (HNM.out _).mono ?_;rintro e w' ⟨rfl,rfl⟩)|(go_at_call 61;((with_reducible refine (must_yes _).mono ?_);rintro e w' ⟨rfl,rfl⟩))|(go_at_call 61;((with_reducible refine (must_no _).mono ?_);rintro e w' ⟨rfl,rfl⟩)))
    exact⟨rfl,Ends.arg rfl HB.out⟩
theorem form_ty0_222 (B c i:Nat) (k n tk tz xa:Int) (nm tn xs:ByteArray) (ao:Option Addr) (m cap:Nat) (w:World) (h:Ck B c i w) (hx:wants k=some ⟨xa,false,false,true,xs⟩) (hA:¬ xa = -1) (hA2:(m:Int)=xa) (hN:n=0) (hM:nm.data.toList = []) (h2:¬ tk=2) (h3:¬ tk=3) :
    Calls Try.prog 97 #[.pointer (some ⟨c,0,none⟩),.agg #[.int .u8 k,.int .i64 n,.string nm,.int .u8 tk,.string tn,.int .i64 tz,.slice ao m cap]] w (Ends (1) w):=by
  have HB:=hid (below_two w (.cells #[.int .u8 k,.int .i64 n,.string nm,.int .u8 tk,.string tn,.int .i64 tz,.slice ao m cap] 62) (.cells #[.int .i64 xa,.bool false,.bool false,.bool true,.string xs] 139))
  have hc:=h.lt
  obtain⟨-,-,m1,m2,c0,-,hM1,-⟩:=h.reads
  have hml:=hM1.lt
  have hl1:=look_x2 hM1 hx (w.alloc (.cells #[.int .u8 k,.int .i64 n,.string nm,.int .u8 tk,.string tn,.int .i64 tz,.slice ao m cap] 62)).drew (Below.heap_alloc _ _ _ hml)
  have hl2:=look_x2 hM1 hx ((w.alloc (.cells #[.int .u8 k,.int .i64 n,.string nm,.int .u8 tk,.string tn,.int .i64 tz,.slice ao m cap] 62)).alloc (.cells #[.int .i64 0,.bool false,.bool false,.bool false,.string ⟨#[]⟩] 139)).drew (two_heap hml _ _)
  clear h hM1 hx
  have a1:(xa == -1)=false:=beq_eq_false_iff_ne.2 hA
  have a2:((m:Int) == xa)=true:=beq_iff_eq.2 hA2
  clear hA hA2
  subst hN
  have t1:=emp_yes hM
  have t2:=nil_yes hM
  clear hM
  have u2:(tk == 2)=false:=beq_eq_false_iff_ne.2 h2
  have u3:(tk == 3)=false:=beq_eq_false_iff_ne.2 h3
  clear h2 h3
  go_enter Try.func97,Try.ntmps97
  go_wp2_with fail
  go_region
  all_goals
    go_wp2_with (first|(go_at_call 61;((with_reducible refine (must_yes _).mono ?_);rintro e w' ⟨rfl,rfl⟩))|(go_at_call 61;((with_reducible refine (must_no _).mono ?_);rintro e w' ⟨rfl,rfl⟩)))
    exact⟨rfl,Ends.arg rfl HB.out⟩
theorem form_zy_222 (B c i:Nat) (k n tk tz xa:Int) (nm tn xs:ByteArray) (ao:Option Addr) (m cap:Nat) (w:World) (h:Ck B c i w) (hx:wants k=some ⟨xa,false,false,false,xs⟩) (hA:¬ xa = -1) (hA2:(m:Int)=xa) (hN:n=0) (hM:nm.data.toList = []) (hz:noTy tk tn tz=true) :
    Calls Try.prog 97 #[.pointer (some ⟨c,0,none⟩),.agg #[.int .u8 k,.int .i64 n,.string nm,.int .u8 tk,.string tn,.int .i64 tz,.slice ao m cap]] w (Ends (0) w):=by
  have HB:=hid (below_two w (.cells #[.int .u8 k,.int .i64 n,.string nm,.int .u8 tk,.string tn,.int .i64 tz,.slice ao m cap] 62) (.cells #[.int .i64 xa,.bool false,.bool false,.bool false,.string xs] 139))
  have hc:=h.lt
  obtain⟨-,-,m1,m2,c0,-,hM1,-⟩:=h.reads
  have hml:=hM1.lt
  have hl1:=look_x2 hM1 hx (w.alloc (.cells #[.int .u8 k,.int .i64 n,.string nm,.int .u8 tk,.string tn,.int .i64 tz,.slice ao m cap] 62)).drew (Below.heap_alloc _ _ _ hml)
  have hl2:=look_x2 hM1 hx ((w.alloc (.cells #[.int .u8 k,.int .i64 n,.string nm,.int .u8 tk,.string tn,.int .i64 tz,.slice ao m cap] 62)).alloc (.cells #[.int .i64 0,.bool false,.bool false,.bool false,.string ⟨#[]⟩] 139)).drew (two_heap hml _ _)
  clear h hM1 hx
  have a1:(xa == -1)=false:=beq_eq_false_iff_ne.2 hA
  have a2:((m:Int) == xa)=true:=beq_iff_eq.2 hA2
  clear hA hA2
  subst hN
  have t1:=emp_yes hM
  have t2:=nil_yes hM
  clear hM
  have hq:=noty_is hz
  clear hz
  go_enter Try.func97,Try.ntmps97
  go_wp2_with fail
  go_region
  all_goals
    go_wp2_with (first|(go_at_call 61;((with_reducible refine (must_yes _).mono ?_);rintro e w' ⟨rfl,rfl⟩))|(go_at_call 61;((with_reducible refine (must_no _).mono ?_);rintro e w' ⟨rfl,rfl⟩)))
    go_end0
    exact Ends.ok rfl HB.out
theorem form_zn_222 (B c i:Nat) (k n tk tz xa:Int) (nm tn xs:ByteArray) (ao:Option Addr) (m cap:Nat) (w:World) (h:Ck B c i w) (hx:wants k=some ⟨xa,false,false,false,xs⟩) (hA:¬ xa = -1) (hA2:(m:Int)=xa) (hN:n=0) (hM:nm.data.toList = []) (hz:noTy tk tn tz=false) :
    Calls Try.prog 97 #[.pointer (some ⟨c,0,none⟩),.agg #[.int .u8 k,.int .i64 n,.string nm,.int .u8 tk,.string tn,.int .i64 tz,.slice ao m cap]] w (Ends (1) w):=by
  have HB:=hid (below_two w (.cells #[.int .u8 k,.int .i64 n,.string nm,.int .u8 tk,.string tn,.int .i64 tz,.slice ao m cap] 62) (.cells #[.int .i64 xa,.bool false,.bool false,.bool false,.string xs] 139))
  have hc:=h.lt
  obtain⟨-,-,m1,m2,c0,-,hM1,-⟩:=h.reads
  have hml:=hM1.lt
  have hl1:=look_x2 hM1 hx (w.alloc (.cells #[.int .u8 k,.int .i64 n,.string nm,.int .u8 tk,.string tn,.int .i64 tz,.slice ao m cap] 62)).drew (Below.heap_alloc _ _ _ hml)
  have hl2:=look_x2 hM1 hx ((w.alloc (.cells #[.int .u8 k,.int .i64 n,.string nm,.int .u8 tk,.string tn,.int .i64 tz,.slice ao m cap] 62)).alloc (.cells #[.int .i64 0,.bool false,.bool false,.bool false,.string ⟨#[]⟩] 139)).drew (two_heap hml _ _)
  clear h hM1 hx
  have a1:(xa == -1)=false:=beq_eq_false_iff_ne.2 hA
  have a2:((m:Int) == xa)=true:=beq_iff_eq.2 hA2
  clear hA hA2
  subst hN
  have t1:=emp_yes hM
  have t2:=nil_yes hM
  clear hM
  have hq:=noty_is hz
  clear hz
  go_enter Try.func97,Try.ntmps97
  go_wp2_with fail
  go_region
  all_goals
    go_wp2_with (first|(go_at_call 61;((with_reducible refine (must_yes _).mono ?_);rintro e w' ⟨rfl,rfl⟩))|(go_at_call 61;((with_reducible refine (must_no _).mono ?_);rintro e w' ⟨rfl,rfl⟩)))
    exact⟨rfl,Ends.arg rfl HB.out⟩
end Go.Proofs.Ytcibiiddigpnfaa
