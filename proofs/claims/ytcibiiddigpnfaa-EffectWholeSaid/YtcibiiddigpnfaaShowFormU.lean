/- What the show layer's checker finds of an expression's type, where the rest of its own form is right (part U). -/
import Derived.Test.YtcibiiddigpnfaaRows
import Derived.Test.YtcibiiddigpnfaaGCheck
namespace Go.Proofs.Ytcibiiddigpnfaa
open Lib (hid)
set_option maxHeartbeats 1000000
set_option maxRecDepth 100000
open Go.RowKit
theorem form_ty3_111_0 (B c i:Nat) (k n tz xa:Int) (nm tn xs:ByteArray) (ao:Option Addr) (m cap:Nat) (w:World) (h:Ck B c i w) (hx:wants k=some ⟨xa,true,true,true,xs⟩) (hA:xa = -1) (hs:nm.size≤9223372036854775807) (hM:isName nm.data.toList=true) (ht:tn.size≤9223372036854775807) (hr:tyForm 3 tn.data.toList tz=0) :
    Calls Try.prog 97 #[.pointer (some ⟨c,0,none⟩),.agg #[.int .u8 k,.int .i64 n,.string nm,.int .u8 3,.string tn,.int .i64 tz,.slice ao m cap]] w (Ends (0) w):=by
  have HB:=hid (below_two w (.cells #[.int .u8 k,.int .i64 n,.string nm,.int .u8 3,.string tn,.int .i64 tz,.slice ao m cap] 62) (.cells #[.int .i64 xa,.bool true,.bool true,.bool true,.string xs] 139))
  have hc:=h.lt
  obtain⟨-,-,m1,m2,c0,-,hM1,-⟩:=h.reads
  have hml:=hM1.lt
  have hl1:=look_x2 hM1 hx (w.alloc (.cells #[.int .u8 k,.int .i64 n,.string nm,.int .u8 3,.string tn,.int .i64 tz,.slice ao m cap] 62)).drew (Below.heap_alloc _ _ _ hml)
  have hl2:=look_x2 hM1 hx ((w.alloc (.cells #[.int .u8 k,.int .i64 n,.string nm,.int .u8 3,.string tn,.int .i64 tz,.slice ao m cap] 62)).alloc (.cells #[.int .i64 0,.bool false,.bool false,.bool false,.string ⟨#[]⟩] 139)).drew (two_heap hml _ _)
  clear h hM1 hx
  have a1:(xa == -1)=true:=beq_iff_eq.2 hA
  clear hA
  have hNM:=name_any nm hs
  rw [hM] at hNM
  have HNM:=hid hNM
  clear hNM hM
  have HT:=hid (fun w=>ctype_any 3 tz tn ht w)
  have HR:=hid hr
  clear hr
  go_enter Try.func97,Try.ntmps97
  go_wp2_with fail
  go_region
  all_goals
    go_wp2_with (first|(go_at_call 62;refine (HNM.out _).mono ?_;rintro e w' ⟨rfl,rfl⟩)|(go_at_call 75;refine (HT.out _).mono ?_;rintro e w' hq;obtain⟨rfl,hb'⟩:=hq.to0 HR.out)|(go_at_call 61;((with_reducible refine (must_yes _).mono ?_);rintro e w' ⟨rfl,rfl⟩))|(go_at_call 61;((with_reducible refine (must_no _).mono ?_);rintro e w' ⟨rfl,rfl⟩)))
    go_end0
    exact Ends.ok rfl (HB.out.trans (hb'.mono (by simp;omega)))
theorem form_ty3_111_1 (B c i:Nat) (k n tz xa:Int) (nm tn xs:ByteArray) (ao:Option Addr) (m cap:Nat) (w:World) (h:Ck B c i w) (hx:wants k=some ⟨xa,true,true,true,xs⟩) (hA:xa = -1) (hs:nm.size≤9223372036854775807) (hM:isName nm.data.toList=true) (ht:tn.size≤9223372036854775807) (hr:tyForm 3 tn.data.toList tz=1) :
    Calls Try.prog 97 #[.pointer (some ⟨c,0,none⟩),.agg #[.int .u8 k,.int .i64 n,.string nm,.int .u8 3,.string tn,.int .i64 tz,.slice ao m cap]] w (Ends (1) w):=by
  have HB:=hid (below_two w (.cells #[.int .u8 k,.int .i64 n,.string nm,.int .u8 3,.string tn,.int .i64 tz,.slice ao m cap] 62) (.cells #[.int .i64 xa,.bool true,.bool true,.bool true,.string xs] 139))
  have hc:=h.lt
  obtain⟨-,-,m1,m2,c0,-,hM1,-⟩:=h.reads
  have hml:=hM1.lt
  have hl1:=look_x2 hM1 hx (w.alloc (.cells #[.int .u8 k,.int .i64 n,.string nm,.int .u8 3,.string tn,.int .i64 tz,.slice ao m cap] 62)).drew (Below.heap_alloc _ _ _ hml)
  have hl2:=look_x2 hM1 hx ((w.alloc (.cells #[.int .u8 k,.int .i64 n,.string nm,.int .u8 3,.string tn,.int .i64 tz,.slice ao m cap] 62)).alloc (.cells #[.int .i64 0,.bool false,.bool false,.bool false,.string ⟨#[]⟩] 139)).drew (two_heap hml _ _)
  clear h hM1 hx
  have a1:(xa == -1)=true:=beq_iff_eq.2 hA
  clear hA
  have hNM:=name_any nm hs
  rw [hM] at hNM
  have HNM:=hid hNM
  clear hNM hM
  have HT:=hid (fun w=>ctype_any 3 tz tn ht w)
  have HR:=hid hr
  clear hr
  go_enter Try.func97,Try.ntmps97
  go_wp2_with fail
  go_region
  all_goals
    go_wp2_with (first|(go_at_call 62;refine (HNM.out _).mono ?_;rintro e w' ⟨rfl,rfl⟩)|(go_at_call 75;refine (HT.out _).mono ?_;rintro e w' hq;obtain⟨rfl,hb'⟩:=hq.to1 HR.out)|(go_at_call 61;((with_reducible refine (must_yes _).mono ?_);rintro e w' ⟨rfl,rfl⟩))|(go_at_call 61;((with_reducible refine (must_no _).mono ?_);rintro e w' ⟨rfl,rfl⟩)))
    exact⟨rfl,Ends.arg rfl (HB.out.trans (hb'.mono (by simp;omega)))⟩
theorem form_ty3_111_3 (B c i:Nat) (k n tz xa:Int) (nm tn xs:ByteArray) (ao:Option Addr) (m cap:Nat) (w:World) (h:Ck B c i w) (hx:wants k=some ⟨xa,true,true,true,xs⟩) (hA:xa = -1) (hs:nm.size≤9223372036854775807) (hM:isName nm.data.toList=true) (ht:tn.size≤9223372036854775807) (hr:tyForm 3 tn.data.toList tz=3) :
    Calls Try.prog 97 #[.pointer (some ⟨c,0,none⟩),.agg #[.int .u8 k,.int .i64 n,.string nm,.int .u8 3,.string tn,.int .i64 tz,.slice ao m cap]] w (Ends (3) w):=by
  have HB:=hid (below_two w (.cells #[.int .u8 k,.int .i64 n,.string nm,.int .u8 3,.string tn,.int .i64 tz,.slice ao m cap] 62) (.cells #[.int .i64 xa,.bool true,.bool true,.bool true,.string xs] 139))
  have hc:=h.lt
  obtain⟨-,-,m1,m2,c0,-,hM1,-⟩:=h.reads
  have hml:=hM1.lt
  have hl1:=look_x2 hM1 hx (w.alloc (.cells #[.int .u8 k,.int .i64 n,.string nm,.int .u8 3,.string tn,.int .i64 tz,.slice ao m cap] 62)).drew (Below.heap_alloc _ _ _ hml)
  have hl2:=look_x2 hM1 hx ((w.alloc (.cells #[.int .u8 k,.int .i64 n,.string nm,.int .u8 3,.string tn,.int .i64 tz,.slice ao m cap] 62)).alloc (.cells #[.int .i64 0,.bool false,.bool false,.bool false,.string ⟨#[]⟩] 139)).drew (two_heap hml _ _)
  clear h hM1 hx
  have a1:(xa == -1)=true:=beq_iff_eq.2 hA
  clear hA
  have hNM:=name_any nm hs
  rw [hM] at hNM
  have HNM:=hid hNM
  clear hNM hM
  have HT:=hid (fun w=>ctype_any 3 tz tn ht w)
  have HR:=hid hr
  clear hr
  go_enter Try.func97,Try.ntmps97
  go_wp2_with fail
  go_region
  all_goals
    go_wp2_with (first|(go_at_call 62;refine (HNM.out _).mono ?_;rintro e w' ⟨rfl,rfl⟩)|(go_at_call 75;refine (HT.out _).mono ?_;rintro e w' hq;obtain⟨rfl,hb'⟩:=hq.to3 HR.out)|(go_at_call 61;((with_reducible refine (must_yes _).mono ?_);rintro e w' ⟨rfl,rfl⟩))|(go_at_call 61;((with_reducible refine (must_no _).mono ?_);rintro e w' ⟨rfl,rfl⟩)))
    exact⟨rfl,Ends.limit rfl (HB.out.trans (hb'.mono (by simp;omega)))⟩
theorem form_ty3_112_0 (B c i:Nat) (k n tz xa:Int) (nm tn xs:ByteArray) (ao:Option Addr) (m cap:Nat) (w:World) (h:Ck B c i w) (hx:wants k=some ⟨xa,true,false,true,xs⟩) (hA:xa = -1) (hM:nm.data.toList = []) (ht:tn.size≤9223372036854775807) (hr:tyForm 3 tn.data.toList tz=0) :
    Calls Try.prog 97 #[.pointer (some ⟨c,0,none⟩),.agg #[.int .u8 k,.int .i64 n,.string nm,.int .u8 3,.string tn,.int .i64 tz,.slice ao m cap]] w (Ends (0) w):=by
  have HB:=hid (below_two w (.cells #[.int .u8 k,.int .i64 n,.string nm,.int .u8 3,.string tn,.int .i64 tz,.slice ao m cap] 62) (.cells #[.int .i64 xa,.bool true,.bool false,.bool true,.string xs] 139))
  have hc:=h.lt
  obtain⟨-,-,m1,m2,c0,-,hM1,-⟩:=h.reads
  have hml:=hM1.lt
  have hl1:=look_x2 hM1 hx (w.alloc (.cells #[.int .u8 k,.int .i64 n,.string nm,.int .u8 3,.string tn,.int .i64 tz,.slice ao m cap] 62)).drew (Below.heap_alloc _ _ _ hml)
  have hl2:=look_x2 hM1 hx ((w.alloc (.cells #[.int .u8 k,.int .i64 n,.string nm,.int .u8 3,.string tn,.int .i64 tz,.slice ao m cap] 62)).alloc (.cells #[.int .i64 0,.bool false,.bool false,.bool false,.string ⟨#[]⟩] 139)).drew (two_heap hml _ _)
  clear h hM1 hx
  have a1:(xa == -1)=true:=beq_iff_eq.2 hA
  clear hA
  have t1:=emp_yes hM
  have t2:=nil_yes hM
  clear hM
  have HT:=hid (fun w=>ctype_any 3 tz tn ht w)
  have HR:=hid hr
  clear hr
  go_enter Try.func97,Try.ntmps97
  go_wp2_with fail
  go_region
  all_goals
    go_wp2_with (first|(go_at_call 75;refine (HT.out _).mono ?_;rintro e w' hq;obtain⟨rfl,hb'⟩:=hq.to0 HR.out)|(go_at_call 61;((with_reducible refine (must_yes _).mono ?_);rintro e w' ⟨rfl,rfl⟩))|(go_at_call 61;((with_reducible refine (must_no _).mono ?_);rintro e w' ⟨rfl,rfl⟩)))
    go_end0
    exact Ends.ok rfl (HB.out.trans (hb'.mono (by simp;omega)))
theorem form_ty3_112_1 (B c i:Nat) (k n tz xa:Int) (nm tn xs:ByteArray) (ao:Option Addr) (m cap:Nat) (w:World) (h:Ck B c i w) (hx:wants k=some ⟨xa,true,false,true,xs⟩) (hA:xa = -1) (hM:nm.data.toList = []) (ht:tn.size≤9223372036854775807) (hr:tyForm 3 tn.data.toList tz=1) :
    Calls Try.prog 97 #[.pointer (some ⟨c,0,none⟩),.agg #[.int .u8 k,.int .i64 n,.string nm,.int .u8 3,.string tn,.int .i64 tz,.slice ao m cap]] w (Ends (1) w):=by
  have HB:=hid (below_two w (.cells #[.int .u8 k,.int .i64 n,.string nm,.int .u8 3,.string tn,.int .i64 tz,.slice ao m cap] 62) (.cells #[.int .i64 xa,.bool true,.bool false,.bool true,.string xs] 139))
  have hc:=h.lt
  obtain⟨-,-,m1,m2,c0,-,hM1,-⟩:=h.reads
  have hml:=hM1.lt
  have hl1:=look_x2 hM1 hx (w.alloc (.cells #[.int .u8 k,.int .i64 n,.string nm,.int .u8 3,.string tn,.int .i64 tz,.slice ao m cap] 62)).drew (Below.heap_alloc _ _ _ hml)
  have hl2:=look_x2 hM1 hx ((w.alloc (.cells #[.int .u8 k,.int .i64 n,.string nm,.int .u8 3,.string tn,.int .i64 tz,.slice ao m cap] 62)).alloc (.cells #[.int .i64 0,.bool false,.bool false,.bool false,.string ⟨#[]⟩] 139)).drew (two_heap hml _ _)
  clear h hM1 hx
  have a1:(xa == -1)=true:=beq_iff_eq.2 hA
  clear hA
  have t1:=emp_yes hM
  have t2:=nil_yes hM
  clear hM
  have HT:=hid (fun w=>ctype_any 3 tz tn ht w)
  have HR:=hid hr
  clear hr
  go_enter Try.func97,Try.ntmps97
  go_wp2_with fail
  go_region
  all_goals
    go_wp2_with (first|(go_at_call 75;refine (HT.out _).mono ?_;rintro e w' hq;obtain⟨rfl,hb'⟩:=hq.to1 HR.out)|(go_at_call 61;((with_reducible refine (must_yes _).mono ?_);rintro e w' ⟨rfl,rfl⟩))|(go_at_call 61;((with_reducible refine (must_no _).mono ?_);rintro e w' ⟨rfl,rfl⟩)))
    exact⟨rfl,Ends.arg rfl (HB.out.trans (hb'.mono (by simp;omega)))⟩
theorem form_ty3_112_3 (B c i:Nat) (k n tz xa:Int) (nm tn xs:ByteArray) (ao:Option Addr) (m cap:Nat) (w:World) (h:Ck B c i w) (hx:wants k=some ⟨xa,true,false,true,xs⟩) (hA:xa = -1) (hM:nm.data.toList = []) (ht:tn.size≤9223372036854775807) (hr:tyForm 3 tn.data.toList tz=3) :
    Calls Try.prog 97 #[.pointer (some ⟨c,0,none⟩),.agg #[.int .u8 k,.int .i64 n,.string nm,.int .u8 3,.string tn,.int .i64 tz,.slice ao m cap]] w (Ends (3) w):=by
  have HB:=hid (below_two w (.cells #[.int .u8 k,.int .i64 n,.string nm,.int .u8 3,.string tn,.int .i64 tz,.slice ao m cap] 62) (.cells #[.int .i64 xa,.bool true,.bool false,.bool true,.string xs] 139))
  have hc:=h.lt
  obtain⟨-,-,m1,m2,c0,-,hM1,-⟩:=h.reads
  have hml:=hM1.lt
  have hl1:=look_x2 hM1 hx (w.alloc (.cells #[.int .u8 k,.int .i64 n,.string nm,.int .u8 3,.string tn,.int .i64 tz,.slice ao m cap] 62)).drew (Below.heap_alloc _ _ _ hml)
  have hl2:=look_x2 hM1 hx ((w.alloc (.cells #[.int .u8 k,.int .i64 n,.string nm,.int .u8 3,.string tn,.int .i64 tz,.slice ao m cap] 62)).alloc (.cells #[.int .i64 0,.bool false,.bool false,.bool false,.string ⟨#[]⟩] 139)).drew (two_heap hml _ _)
  clear h hM1 hx
  have a1:(xa == -1)=true:=beq_iff_eq.2 hA
  clear hA
  have t1:=emp_yes hM
  have t2:=nil_yes hM
  clear hM
  have HT:=hid (fun w=>ctype_any 3 tz tn ht w)
  have HR:=hid hr
  clear hr
  go_enter Try.func97,Try.ntmps97
  go_wp2_with fail
  go_region
  all_goals
    go_wp2_with (first|(go_at_call 75;refine (HT.out _).mono ?_;rintro e w' hq;obtain⟨rfl,hb'⟩:=hq.to3 HR.out)|(go_at_call 61;((with_reducible refine (must_yes _).mono ?_);rintro e w' ⟨rfl,rfl⟩))|(go_at_call 61;((with_reducible refine (must_no _).mono ?_);rintro e w' ⟨rfl,rfl⟩)))
    exact⟨rfl,Ends.limit rfl (HB.out.trans (hb'.mono (by simp;omega)))⟩
theorem form_ty3_121_0 (B c i:Nat) (k n tz xa:Int) (nm tn xs:ByteArray) (ao:Option Addr) (m cap:Nat) (w:World) (h:Ck B c i w) (hx:wants k=some ⟨xa,false,true,true,xs⟩) (hA:xa = -1) (hN:n=0) (hs:nm.size≤9223372036854775807) (hM:isName nm.data.toList=true) (ht:tn.size≤9223372036854775807) (hr:tyForm 3 tn.data.toList tz=0) :
    Calls Try.prog 97 #[.pointer (some ⟨c,0,none⟩),.agg #[.int .u8 k,.int .i64 n,.string nm,.int .u8 3,.string tn,.int .i64 tz,.slice ao m cap]] w (Ends (0) w):=by
  have HB:=hid (below_two w (.cells #[.int .u8 k,.int .i64 n,.string nm,.int .u8 3,.string tn,.int .i64 tz,.slice ao m cap] 62) (.cells #[.int .i64 xa,.bool false,.bool true,.bool true,.string xs] 139))
  have hc:=h.lt
  obtain⟨-,-,m1,m2,c0,-,hM1,-⟩:=h.reads
  have hml:=hM1.lt
  have hl1:=look_x2 hM1 hx (w.alloc (.cells #[.int .u8 k,.int .i64 n,.string nm,.int .u8 3,.string tn,.int .i64 tz,.slice ao m cap] 62)).drew (Below.heap_alloc _ _ _ hml)
  have hl2:=look_x2 hM1 hx ((w.alloc (.cells #[.int .u8 k,.int .i64 n,.string nm,.int .u8 3,.string tn,.int .i64 tz,.slice ao m cap] 62)).alloc (.cells #[.int .i64 0,.bool false,.bool false,.bool false,.string ⟨#[]⟩] 139)).drew (two_heap hml _ _)
  clear h hM1 hx
  have a1:(xa == -1)=true:=beq_iff_eq.2 hA
  clear hA
  subst hN
  have hNM:=name_any nm hs
  rw [hM] at hNM
  have HNM:=hid hNM
  clear hNM hM
  have HT:=hid (fun w=>ctype_any 3 tz tn ht w)
  have HR:=hid hr
  clear hr
  go_enter Try.func97,Try.ntmps97
  go_wp2_with fail
  go_region
  all_goals
    go_wp2_with (first|(go_at_call 62;refine (HNM.out _).mono ?_;rintro e w' ⟨rfl,rfl⟩)|(go_at_call 75;refine (HT.out _).mono ?_;rintro e w' hq;obtain⟨rfl,hb'⟩:=hq.to0 HR.out)|(go_at_call 61;((with_reducible refine (must_yes _).mono ?_);rintro e w' ⟨rfl,rfl⟩))|(go_at_call 61;((with_reducible refine (must_no _).mono ?_);rintro e w' ⟨rfl,rfl⟩)))
    go_end0
    exact Ends.ok rfl (HB.out.trans (hb'.mono (by simp;omega)))
theorem form_ty3_121_1 (B c i:Nat) (k n tz xa:Int) (nm tn xs:ByteArray) (ao:Option Addr) (m cap:Nat) (w:World) (h:Ck B c i w) (hx:wants k=some ⟨xa,false,true,true,xs⟩) (hA:xa = -1) (hN:n=0) (hs:nm.size≤9223372036854775807) (hM:isName nm.data.toList=true) (ht:tn.size≤9223372036854775807) (hr:tyForm 3 tn.data.toList tz=1) :
    Calls Try.prog 97 #[.pointer (some ⟨c,0,none⟩),.agg #[.int .u8 k,.int .i64 n,.string nm,.int .u8 3,.string tn,.int .i64 tz,.slice ao m cap]] w (Ends (1) w):=by
  have HB:=hid (below_two w (.cells #[.int .u8 k,.int .i64 n,.string nm,.int .u8 3,.string tn,.int .i64 tz,.slice ao m cap] 62) (.cells #[.int .i64 xa,.bool false,.bool true,.bool true,.string xs] 139))
  have hc:=h.lt
  obtain⟨-,-,m1,m2,c0,-,hM1,-⟩:=h.reads
  have hml:=hM1.lt
  have hl1:=look_x2 hM1 hx (w.alloc (.cells #[.int .u8 k,.int .i64 n,.string nm,.int .u8 3,.string tn,.int .i64 tz,.slice ao m cap] 62)).drew (Below.heap_alloc _ _ _ hml)
  have hl2:=look_x2 hM1 hx ((w.alloc (.cells #[.int .u8 k,.int .i64 n,.string nm,.int .u8 3,.string tn,.int .i64 tz,.slice ao m cap] 62)).alloc (.cells #[.int .i64 0,.bool false,.bool false,.bool false,.string ⟨#[]⟩] 139)).drew (two_heap hml _ _)
  clear h hM1 hx
  have a1:(xa == -1)=true:=beq_iff_eq.2 hA
  clear hA
  subst hN
  have hNM:=name_any nm hs
  rw [hM] at hNM
  have HNM:=hid hNM
  clear hNM hM
  have HT:=hid (fun w=>ctype_any 3 tz tn ht w)
  have HR:=hid hr
  clear hr
  go_enter Try.func97,Try.ntmps97
  go_wp2_with fail
  go_region
  all_goals
    go_wp2_with (first|(go_at_call 62;refine (HNM.out _).mono ?_;rintro e w' ⟨rfl,rfl⟩)|(go_at_call 75;refine (HT.out _).mono ?_;rintro e w' hq;obtain⟨rfl,hb'⟩:=hq.to1 HR.out)|(go_at_call 61;((with_reducible refine (must_yes _).mono ?_);rintro e w' ⟨rfl,rfl⟩))|(go_at_call 61;((with_reducible refine (must_no _).mono ?_);rintro e w' ⟨rfl,rfl⟩)))
    exact⟨rfl,Ends.arg rfl (HB.out.trans (hb'.mono (by simp;omega)))⟩
theorem form_ty3_121_3 (B c i:Nat) (k n tz xa:Int) (nm tn xs:ByteArray) (ao:Option Addr) (m cap:Nat) (w:World) (h:Ck B c i w) (hx:wants k=some ⟨xa,false,true,true,xs⟩) (hA:xa = -1) (hN:n=0) (hs:nm.size≤9223372036854775807) (hM:isName nm.data.toList=true) (ht:tn.size≤9223372036854775807) (hr:tyForm 3 tn.data.toList tz=3) :
    Calls Try.prog 97 #[.pointer (some ⟨c,0,none⟩),.agg #[.int .u8 k,.int .i64 n,.string nm,.int .u8 3,.string tn,.int .i64 tz,.slice ao m cap]] w (Ends (3) w):=by
  have HB:=hid (below_two w (.cells #[.int .u8 k,.int .i64 n,.string nm,.int .u8 3,.string tn,.int .i64 tz,.slice ao m cap] 62) (.cells #[.int .i64 xa,.bool false,.bool true,.bool true,.string xs] 139))
  have hc:=h.lt
  obtain⟨-,-,m1,m2,c0,-,hM1,-⟩:=h.reads
  have hml:=hM1.lt
  have hl1:=look_x2 hM1 hx (w.alloc (.cells #[.int .u8 k,.int .i64 n,.string nm,.int .u8 3,.string tn,.int .i64 tz,.slice ao m cap] 62)).drew (Below.heap_alloc _ _ _ hml)
  have hl2:=look_x2 hM1 hx ((w.alloc (.cells #[.int .u8 k,.int .i64 n,.string nm,.int .u8 3,.string tn,.int .i64 tz,.slice ao m cap] 62)).alloc (.cells #[.int .i64 0,.bool false,.bool false,.bool false,.string ⟨#[]⟩] 139)).drew (two_heap hml _ _)
  clear h hM1 hx
  have a1:(xa == -1)=true:=beq_iff_eq.2 hA
  clear hA
  subst hN
  have hNM:=name_any nm hs
  rw [hM] at hNM
  have HNM:=hid hNM
  clear hNM hM
  have HT:=hid (fun w=>ctype_any 3 tz tn ht w)
  have HR:=hid hr
  clear hr
  go_enter Try.func97,Try.ntmps97
  go_wp2_with fail
  go_region
  all_goals
    go_wp2_with (first|(go_at_call 62;refine (HNM.out _).mono ?_;rintro e w' ⟨rfl,rfl⟩)|(go_at_call 75;refine (HT.out _).mono ?_;rintro e w' hq;obtain⟨rfl,hb'⟩:=hq.to3 HR.out)|(go_at_call 61;((with_reducible refine (must_yes _).mono ?_);rintro e w' ⟨rfl,rfl⟩))|(go_at_call 61;((with_reducible refine (must_no _).mono ?_);rintro e w' ⟨rfl,rfl⟩)))
    exact⟨rfl,Ends.limit rfl (HB.out.trans (hb'.mono (by simp;omega)))⟩
theorem form_ty3_122_0 (B c i:Nat) (k n tz xa:Int) (nm tn xs:ByteArray) (ao:Option Addr) (m cap:Nat) (w:World) (h:Ck B c i w) (hx:wants k=some ⟨xa,false,false,true,xs⟩) (hA:xa = -1) (hN:n=0) (hM:nm.data.toList = []) (ht:tn.size≤9223372036854775807) (hr:tyForm 3 tn.data.toList tz=0) :
    Calls Try.prog 97 #[.pointer (some ⟨c,0,none⟩),.agg #[.int .u8 k,.int .i64 n,.string nm,.int .u8 3,.string tn,.int .i64 tz,.slice ao m cap]] w (Ends (0) w):=by
  have HB:=hid (below_two w (.cells #[.int .u8 k,.int .i64 n,.string nm,.int .u8 3,.string tn,.int .i64 tz,.slice ao m cap] 62) (.cells #[.int .i64 xa,.bool false,.bool false,.bool true,.string xs] 139))
  have hc:=h.lt
  obtain⟨-,-,m1,m2,c0,-,hM1,-⟩:=h.reads
  have hml:=hM1.lt
  have hl1:=look_x2 hM1 hx (w.alloc (.cells #[.int .u8 k,.int .i64 n,.string nm,.int .u8 3,.string tn,.int .i64 tz,.slice ao m cap] 62)).drew (Below.heap_alloc _ _ _ hml)
  have hl2:=look_x2 hM1 hx ((w.alloc (.cells #[.int .u8 k,.int .i64 n,.string nm,.int .u8 3,.string tn,.int .i64 tz,.slice ao m cap] 62)).alloc (.cells #[.int .i64 0,.bool false,.bool false,.bool false,.string ⟨#[]⟩] 139)).drew (two_heap hml _ _)
  clear h hM1 hx
  have a1:(xa == -1)=true:=beq_iff_eq.2 hA
  clear hA
  subst hN
  have t1:=emp_yes hM
  have t2:=nil_yes hM
  clear hM
  have HT:=hid (fun w=>ctype_any 3 tz tn ht w)
  have HR:=hid hr
  clear hr
  go_enter Try.func97,Try.ntmps97
  go_wp2_with fail
  go_region
  all_goals
    go_wp2_with (first|(go_at_call 75;refine (HT.out _).mono ?_;rintro e w' hq;obtain⟨rfl,hb'⟩:=hq.to0 HR.out)|(go_at_call 61;((with_reducible refine (must_yes _).mono ?_);rintro e w' ⟨rfl,rfl⟩))|(go_at_call 61;((with_reducible refine (must_no _).mono ?_);rintro e w' ⟨rfl,rfl⟩)))
    go_end0
    exact Ends.ok rfl (HB.out.trans (hb'.mono (by simp;omega)))
theorem form_ty3_122_1 (B c i:Nat) (k n tz xa:Int) (nm tn xs:ByteArray) (ao:Option Addr) (m cap:Nat) (w:World) (h:Ck B c i w) (hx:wants k=some ⟨xa,false,false,true,xs⟩) (hA:xa = -1) (hN:n=0) (hM:nm.data.toList = []) (ht:tn.size≤9223372036854775807) (hr:tyForm 3 tn.data.toList tz=1) :
    Calls Try.prog 97 #[.pointer (some ⟨c,0,none⟩),.agg #[.int .u8 k,.int .i64 n,.string nm,.int .u8 3,.string tn,.int .i64 tz,.slice ao m cap]] w (Ends (1) w):=by
  have HB:=hid (below_two w (.cells #[.int .u8 k,.int .i64 n,.string nm,.int .u8 3,.string tn,.int .i64 tz,.slice ao m cap] 62) (.cells #[.int .i64 xa,.bool false,.bool false,.bool true,.string xs] 139))
  have hc:=h.lt
  obtain⟨-,-,m1,m2,c0,-,hM1,-⟩:=h.reads
  have hml:=hM1.lt
  have hl1:=look_x2 hM1 hx (w.alloc (.cells #[.int .u8 k,.int .i64 n,.string nm,.int .u8 3,.string tn,.int .i64 tz,.slice ao m cap] 62)).drew (Below.heap_alloc _ _ _ hml)
  have hl2:=look_x2 hM1 hx ((w.alloc (.cells #[.int .u8 k,.int .i64 n,.string nm,.int .u8 3,.string tn,.int .i64 tz,.slice ao m cap] 62)).alloc (.cells #[.int .i64 0,.bool false,.bool false,.bool false,.string ⟨#[]⟩] 139)).drew (two_heap hml _ _)
  clear h hM1 hx
  have a1:(xa == -1)=true:=beq_iff_eq.2 hA
  clear hA
  subst hN
  have t1:=emp_yes hM
  have t2:=nil_yes hM
  clear hM
  have HT:=hid (fun w=>ctype_any 3 tz tn ht w)
  have HR:=hid hr
  clear hr
  go_enter Try.func97,Try.ntmps97
  go_wp2_with fail
  go_region
  all_goals
    go_wp2_with (first|(go_at_call 75;refine (HT.out _).mono ?_;rintro e w' hq;obtain⟨rfl,hb'⟩:=hq.to1 HR.out)|(go_at_call 61;((with_reducible refine (must_yes _).mono ?_);rintro e w' ⟨rfl,rfl⟩))|(go_at_call 61;((with_reducible refine (must_no _).mono ?_);rintro e w' ⟨rfl,rfl⟩)))
    exact⟨rfl,Ends.arg rfl (HB.out.trans (hb'.mono (by simp;omega)))⟩
theorem form_ty3_122_3 (B c i:Nat) (k n tz xa:Int) (nm tn xs:ByteArray) (ao:Option Addr) (m cap:Nat) (w:World) (h:Ck B c i w) (hx:wants k=some ⟨xa,false,false,true,xs⟩) (hA:xa = -1) (hN:n=0) (hM:nm.data.toList = []) (ht:tn.size≤9223372036854775807) (hr:tyForm 3 tn.data.toList tz=3) :
    Calls Try.prog 97 #[.pointer (some ⟨c,0,none⟩),.agg #[.int .u8 k,.int .i64 n,.string nm,.int .u8 3,.string tn,.int .i64 tz,.slice ao m cap]] w (Ends (3) w):=by
  have HB:=hid (below_two w (.cells #[.int .u8 k,.int .i64 n,.string nm,.int .u8 3,.string tn,.int .i64 tz,.slice ao m cap] 62) (.cells #[.int .i64 xa,.bool false,.bool false,.bool true,.string xs] 139))
  have hc:=h.lt
  obtain⟨-,-,m1,m2,c0,-,hM1,-⟩:=h.reads
  have hml:=hM1.lt
  have hl1:=look_x2 hM1 hx (w.alloc (.cells #[.int .u8 k,.int .i64 n,.string nm,.int .u8 3,.string tn,.int .i64 tz,.slice ao m cap] 62)).drew (Below.heap_alloc _ _ _ hml)
  have hl2:=look_x2 hM1 hx ((w.alloc (.cells #[.int .u8 k,.int .i64 n,.string nm,.int .u8 3,.string tn,.int .i64 tz,.slice ao m cap] 62)).alloc (.cells #[.int .i64 0,.bool false,.bool false,.bool false,.string ⟨#[]⟩] 139)).drew (two_heap hml _ _)
  clear h hM1 hx
  have a1:(xa == -1)=true:=beq_iff_eq.2 hA
  clear hA
  subst hN
  have t1:=emp_yes hM
  have t2:=nil_yes hM
  clear hM
  have HT:=hid (fun w=>ctype_any 3 tz tn ht w)
  have HR:=hid hr
  clear hr
  go_enter Try.func97,Try.ntmps97
  go_wp2_with fail
  go_region
  all_goals
    go_wp2_with (first|(go_at_call 75;refine (HT.out _).mono ?_;rintro e w' hq;obtain⟨rfl,hb'⟩:=hq.to3 HR.out)|(go_at_call 61;((with_reducible refine (must_yes _).mono ?_);rintro e w' ⟨rfl,rfl⟩))|(go_at_call 61;((with_reducible refine (must_no _).mono ?_);rintro e w' ⟨rfl,rfl⟩)))
    exact⟨rfl,Ends.limit rfl (HB.out.trans (hb'.mono (by simp;omega)))⟩
theorem form_ty3_211_0 (B c i:Nat) (k n tz xa:Int) (nm tn xs:ByteArray) (ao:Option Addr) (m cap:Nat) (w:World) (h:Ck B c i w) (hx:wants k=some ⟨xa,true,true,true,xs⟩) (hA:¬ xa = -1) (hA2:(m:Int)=xa) (hs:nm.size≤9223372036854775807) (hM:isName nm.data.toList=true) (ht:tn.size≤9223372036854775807) (hr:tyForm 3 tn.data.toList tz=0) :
    Calls Try.prog 97 #[.pointer (some ⟨c,0,none⟩),.agg #[.int .u8 k,.int .i64 n,.string nm,.int .u8 3,.string tn,.int .i64 tz,.slice ao m cap]] w (Ends (0) w):=by
  have HB:=hid (below_two w (.cells #[.int .u8 k,.int .i64 n,.string nm,.int .u8 3,.string tn,.int .i64 tz,.slice ao m cap] 62) (.cells #[.int .i64 xa,.bool true,.bool true,.bool true,.string xs] 139))
  have hc:=h.lt
  obtain⟨-,-,m1,m2,c0,-,hM1,-⟩:=h.reads
  have hml:=hM1.lt
  have hl1:=look_x2 hM1 hx (w.alloc (.cells #[.int .u8 k,.int .i64 n,.string nm,.int .u8 3,.string tn,.int .i64 tz,.slice ao m cap] 62)).drew (Below.heap_alloc _ _ _ hml)
  have hl2:=look_x2 hM1 hx ((w.alloc (.cells #[.int .u8 k,.int .i64 n,.string nm,.int .u8 3,.string tn,.int .i64 tz,.slice ao m cap] 62)).alloc (.cells #[.int .i64 0,.bool false,.bool false,.bool false,.string ⟨#[]⟩] 139)).drew (two_heap hml _ _)
  clear h hM1 hx
  have a1:(xa == -1)=false:=beq_eq_false_iff_ne.2 hA
  have a2:((m:Int) == xa)=true:=beq_iff_eq.2 hA2
  clear hA hA2
  have hNM:=name_any nm hs
  rw [hM] at hNM
  have HNM:=hid hNM
  clear hNM hM
  have HT:=hid (fun w=>ctype_any 3 tz tn ht w)
  have HR:=hid hr
  clear hr
  go_enter Try.func97,Try.ntmps97
  go_wp2_with fail
  go_region
  all_goals
    go_wp2_with (first|(go_at_call 62;refine (HNM.out _).mono ?_;rintro e w' ⟨rfl,rfl⟩)|(go_at_call 75;refine (HT.out _).mono ?_;rintro e w' hq;obtain⟨rfl,hb'⟩:=hq.to0 HR.out)|(go_at_call 61;((with_reducible refine (must_yes _).mono ?_);rintro e w' ⟨rfl,rfl⟩))|(go_at_call 61;((with_reducible refine (must_no _).mono ?_);rintro e w' ⟨rfl,rfl⟩)))
    go_end0
    exact Ends.ok rfl (HB.out.trans (hb'.mono (by simp;omega)))
theorem form_ty3_211_1 (B c i:Nat) (k n tz xa:Int) (nm tn xs:ByteArray) (ao:Option Addr) (m cap:Nat) (w:World) (h:Ck B c i w) (hx:wants k=some ⟨xa,true,true,true,xs⟩) (hA:¬ xa = -1) (hA2:(m:Int)=xa) (hs:nm.size≤9223372036854775807) (hM:isName nm.data.toList=true) (ht:tn.size≤9223372036854775807) (hr:tyForm 3 tn.data.toList tz=1) :
    Calls Try.prog 97 #[.pointer (some ⟨c,0,none⟩),.agg #[.int .u8 k,.int .i64 n,.string nm,.int .u8 3,.string tn,.int .i64 tz,.slice ao m cap]] w (Ends (1) w):=by
  have HB:=hid (below_two w (.cells #[.int .u8 k,.int .i64 n,.string nm,.int .u8 3,.string tn,.int .i64 tz,.slice ao m cap] 62) (.cells #[.int .i64 xa,.bool true,.bool true,.bool true,.string xs] 139))
  have hc:=h.lt
  obtain⟨-,-,m1,m2,c0,-,hM1,-⟩:=h.reads
  have hml:=hM1.lt
  have hl1:=look_x2 hM1 hx (w.alloc (.cells #[.int .u8 k,.int .i64 n,.string nm,.int .u8 3,.string tn,.int .i64 tz,.slice ao m cap] 62)).drew (Below.heap_alloc _ _ _ hml)
  have hl2:=look_x2 hM1 hx ((w.alloc (.cells #[.int .u8 k,.int .i64 n,.string nm,.int .u8 3,.string tn,.int .i64 tz,.slice ao m cap] 62)).alloc (.cells #[.int .i64 0,.bool false,.bool false,.bool false,.string ⟨#[]⟩] 139)).drew (two_heap hml _ _)
  clear h hM1 hx
  have a1:(xa == -1)=false:=beq_eq_false_iff_ne.2 hA
  have a2:((m:Int) == xa)=true:=beq_iff_eq.2 hA2
  clear hA hA2
  have hNM:=name_any nm hs
  rw [hM] at hNM
  have HNM:=hid hNM
  clear hNM hM
  have HT:=hid (fun w=>ctype_any 3 tz tn ht w)
  have HR:=hid hr
  clear hr
  go_enter Try.func97,Try.ntmps97
  go_wp2_with fail
  go_region
  all_goals
    go_wp2_with (first|(go_at_call 62;refine (HNM.out _).mono ?_;rintro e w' ⟨rfl,rfl⟩)|(go_at_call 75;refine (HT.out _).mono ?_;rintro e w' hq;obtain⟨rfl,hb'⟩:=hq.to1 HR.out)|(go_at_call 61;((with_reducible refine (must_yes _).mono ?_);rintro e w' ⟨rfl,rfl⟩))|(go_at_call 61;((with_reducible refine (must_no _).mono ?_);rintro e w' ⟨rfl,rfl⟩)))
    exact⟨rfl,Ends.arg rfl (HB.out.trans (hb'.mono (by simp;omega)))⟩
theorem form_ty3_211_3 (B c i:Nat) (k n tz xa:Int) (nm tn xs:ByteArray) (ao:Option Addr) (m cap:Nat) (w:World) (h:Ck B c i w) (hx:wants k=some ⟨xa,true,true,true,xs⟩) (hA:¬ xa = -1) (hA2:(m:Int)=xa) (hs:nm.size≤9223372036854775807) (hM:isName nm.data.toList=true) (ht:tn.size≤9223372036854775807) (hr:tyForm 3 tn.data.toList tz=3) :
    Calls Try.prog 97 #[.pointer (some ⟨c,0,none⟩),.agg #[.int .u8 k,.int .i64 n,.string nm,.int .u8 3,.string tn,.int .i64 tz,.slice ao m cap]] w (Ends (3) w):=by
  have HB:=hid (below_two w (.cells #[.int .u8 k,.int .i64 n,.string nm,.int .u8 3,.string tn,.int .i64 tz,.slice ao m cap] 62) (.cells #[.int .i64 xa,.bool true,.bool true,.bool true,.string xs] 139))
  have hc:=h.lt
  obtain⟨-,-,m1,m2,c0,-,hM1,-⟩:=h.reads
  have hml:=hM1.lt
  have hl1:=look_x2 hM1 hx (w.alloc (.cells #[.int .u8 k,.int .i64 n,.string nm,.int .u8 3,.string tn,.int .i64 tz,.slice ao m cap] 62)).drew (Below.heap_alloc _ _ _ hml)
  have hl2:=look_x2 hM1 hx ((w.alloc (.cells #[.int .u8 k,.int .i64 n,.string nm,.int .u8 3,.string tn,.int .i64 tz,.slice ao m cap] 62)).alloc (.cells #[.int .i64 0,.bool false,.bool false,.bool false,.string ⟨#[]⟩] 139)).drew (two_heap hml _ _)
  clear h hM1 hx
  have a1:(xa == -1)=false:=beq_eq_false_iff_ne.2 hA
  have a2:((m:Int) == xa)=true:=beq_iff_eq.2 hA2
  clear hA hA2
  have hNM:=name_any nm hs
  rw [hM] at hNM
  have HNM:=hid hNM
  clear hNM hM
  have HT:=hid (fun w=>ctype_any 3 tz tn ht w)
  have HR:=hid hr
  clear hr
  go_enter Try.func97,Try.ntmps97
  go_wp2_with fail
  go_region
  all_goals
    go_wp2_with (first|(go_at_call 62;refine (HNM.out _).mono ?_;rintro e w' ⟨rfl,rfl⟩)|(go_at_call 75;refine (HT.out _).mono ?_;rintro e w' hq;obtain⟨rfl,hb'⟩:=hq.to3 HR.out)|(go_at_call 61;((with_reducible refine (must_yes _).mono ?_);rintro e w' ⟨rfl,rfl⟩))|(go_at_call 61;((with_reducible refine (must_no _).mono ?_);rintro e w' ⟨rfl,rfl⟩)))
    exact⟨rfl,Ends.limit rfl (HB.out.trans (hb'.mono (by simp;omega)))⟩
theorem form_ty3_212_0 (B c i:Nat) (k n tz xa:Int) (nm tn xs:ByteArray) (ao:Option Addr) (m cap:Nat) (w:World) (h:Ck B c i w) (hx:wants k=some ⟨xa,true,false,true,xs⟩) (hA:¬ xa = -1) (hA2:(m:Int)=xa) (hM:nm.data.toList = []) (ht:tn.size≤9223372036854775807) (hr:tyForm 3 tn.data.toList tz=0) :
    Calls Try.prog 97 #[.pointer (some ⟨c,0,none⟩),.agg #[.int .u8 k,.int .i64 n,.string nm,.int .u8 3,.string tn,.int .i64 tz,.slice ao m cap]] w (Ends (0) w):=by
  have HB:=hid (below_two w (.cells #[.int .u8 k,.int .i64 n,.string nm,.int .u8 3,.string tn,.int .i64 tz,.slice ao m cap] 62) (.cells #[.int .i64 xa,.bool true,.bool false,.bool true,.string xs] 139))
  have hc:=h.lt
  obtain⟨-,-,m1,m2,c0,-,hM1,-⟩:=h.reads
  have hml:=hM1.lt
  have hl1:=look_x2 hM1 hx (w.alloc (.cells #[.int .u8 k,.int .i64 n,.string nm,.int .u8 3,.string tn,.int .i64 tz,.slice ao m cap] 62)).drew (Below.heap_alloc _ _ _ hml)
  have hl2:=look_x2 hM1 hx ((w.alloc (.cells #[.int .u8 k,.int .i64 n,.string nm,.int .u8 3,.string tn,.int .i64 tz,.slice ao m cap] 62)).alloc (.cells #[.int .i64 0,.bool false,.bool false,.bool false,.string ⟨#[]⟩] 139)).drew (two_heap hml _ _)
  clear h hM1 hx
  have a1:(xa == -1)=false:=beq_eq_false_iff_ne.2 hA
  have a2:((m:Int) == xa)=true:=beq_iff_eq.2 hA2
  clear hA hA2
  have t1:=emp_yes hM
  have t2:=nil_yes hM
  clear hM
  have HT:=hid (fun w=>ctype_any 3 tz tn ht w)
  have HR:=hid hr
  clear hr
  go_enter Try.func97,Try.ntmps97
  go_wp2_with fail
  go_region
  all_goals
    go_wp2_with (first|(go_at_call 75;refine (HT.out _).mono ?_;rintro e w' hq;obtain⟨rfl,hb'⟩:=hq.to0 HR.out)|(go_at_call 61;((with_reducible refine (must_yes _).mono ?_);rintro e w' ⟨rfl,rfl⟩))|(go_at_call 61;((with_reducible refine (must_no _).mono ?_);rintro e w' ⟨rfl,rfl⟩)))
    go_end0
    exact Ends.ok rfl (HB.out.trans (hb'.mono (by simp;omega)))
theorem form_ty3_212_1 (B c i:Nat) (k n tz xa:Int) (nm tn xs:ByteArray) (ao:Option Addr) (m cap:Nat) (w:World) (h:Ck B c i w) (hx:wants k=some ⟨xa,true,false,true,xs⟩) (hA:¬ xa = -1) (hA2:(m:Int)=xa) (hM:nm.data.toList = []) (ht:tn.size≤9223372036854775807) (hr:tyForm 3 tn.data.toList tz=1) :
    Calls Try.prog 97 #[.pointer (some ⟨c,0,none⟩),.agg #[.int .u8 k,.int .i64 n,.string nm,.int .u8 3,.string tn,.int .i64 tz,.slice ao m cap]] w (Ends (1) w):=by
  have HB:=hid (below_two w (.cells #[.int .u8 k,.int .i64 n,.string nm,.int .u8 3,.string tn,.int .i64 tz,.slice ao m cap] 62) (.cells #[.int .i64 xa,.bool true,.bool false,.bool true,.string xs] 139))
  have hc:=h.lt
  obtain⟨-,-,m1,m2,c0,-,hM1,-⟩:=h.reads
  have hml:=hM1.lt
  have hl1:=look_x2 hM1 hx (w.alloc (.cells #[.int .u8 k,.int .i64 n,.string nm,.int .u8 3,.string tn,.int .i64 tz,.slice ao m cap] 62)).drew (Below.heap_alloc _ _ _ hml)
  have hl2:=look_x2 hM1 hx ((w.alloc (.cells #[.int .u8 k,.int .i64 n,.string nm,.int .u8 3,.string tn,.int .i64 tz,.slice ao m cap] 62)).alloc (.cells #[.int .i64 0,.bool false,.bool false,.bool false,.string ⟨#[]⟩] 139)).drew (two_heap hml _ _)
  clear h hM1 hx
  have a1:(xa == -1)=false:=beq_eq_false_iff_ne.2 hA
  have a2:((m:Int) == xa)=true:=beq_iff_eq.2 hA2
  clear hA hA2
  have t1:=emp_yes hM
  have t2:=nil_yes hM
  clear hM
  have HT:=hid (fun w=>ctype_any 3 tz tn ht w)
  have HR:=hid hr
  clear hr
  go_enter Try.func97,Try.ntmps97
  go_wp2_with fail
  go_region
  all_goals
    go_wp2_with (first|(go_at_call 75;refine (HT.out _).mono ?_;rintro e w' hq;obtain⟨rfl,hb'⟩:=hq.to1 HR.out)|(go_at_call 61;((with_reducible refine (must_yes _).mono ?_);rintro e w' ⟨rfl,rfl⟩))|(go_at_call 61;((with_reducible refine (must_no _).mono ?_);rintro e w' ⟨rfl,rfl⟩)))
    exact⟨rfl,Ends.arg rfl (HB.out.trans (hb'.mono (by simp;omega)))⟩
theorem form_ty3_212_3 (B c i:Nat) (k n tz xa:Int) (nm tn xs:ByteArray) (ao:Option Addr) (m cap:Nat) (w:World) (h:Ck B c i w) (hx:wants k=some ⟨xa,true,false,true,xs⟩) (hA:¬ xa = -1) (hA2:(m:Int)=xa) (hM:nm.data.toList = []) (ht:tn.size≤9223372036854775807) (hr:tyForm 3 tn.data.toList tz=3) :
    Calls Try.prog 97 #[.pointer (some ⟨c,0,none⟩),.agg #[.int .u8 k,.int .i64 n,.string nm,.int .u8 3,.string tn,.int .i64 tz,.slice ao m cap]] w (Ends (3) w):=by
  have HB:=hid (below_two w (.cells #[.int .u8 k,.int .i64 n,.string nm,.int .u8 3,.string tn,.int .i64 tz,.slice ao m cap] 62) (.cells #[.int .i64 xa,.bool true,.bool false,.bool true,.string xs] 139))
  have hc:=h.lt
  obtain⟨-,-,m1,m2,c0,-,hM1,-⟩:=h.reads
  have hml:=hM1.lt
  have hl1:=look_x2 hM1 hx (w.alloc (.cells #[.int .u8 k,.int .i64 n,.string nm,.int .u8 3,.string tn,.int .i64 tz,.slice ao m cap] 62)).drew (Below.heap_alloc _ _ _ hml)
  have hl2:=look_x2 hM1 hx ((w.alloc (.cells #[.int .u8 k,.int .i64 n,.string nm,.int .u8 3,.string tn,.int .i64 tz,.slice ao m cap] 62)).alloc (.cells #[.int .i64 0,.bool false,.bool false,.bool false,.string ⟨#[]⟩] 139)).drew (two_heap hml _ _)
  clear h hM1 hx
  have a1:(xa == -1)=false:=beq_eq_false_iff_ne.2 hA
  have a2:((m:Int) == xa)=true:=beq_iff_eq.2 hA2
  clear hA hA2
  have t1:=emp_yes hM
  have t2:=nil_yes hM
  clear hM
  have HT:=hid (fun w=>ctype_any 3 tz tn ht w)
  have HR:=hid hr
  clear hr
  go_enter Try.func97,Try.ntmps97
  go_wp2_with fail
  go_region
  all_goals
    go_wp2_with (first|(go_at_call 75;refine (HT.out _).mono ?_;rintro e w' hq;obtain⟨rfl,hb'⟩:=hq.to3 HR.out)|(go_at_call 61;((with_reducible refine (must_yes _).mono ?_);rintro e w' ⟨rfl,rfl⟩))|(go_at_call 61;((with_reducible refine (must_no _).mono ?_);rintro e w' ⟨rfl,rfl⟩)))
    exact⟨rfl,Ends.limit rfl (HB.out.trans (hb'.mono (by simp;omega)))⟩
theorem form_ty3_221_0 (B c i:Nat) (k n tz xa:Int) (nm tn xs:ByteArray) (ao:Option Addr) (m cap:Nat) (w:World) (h:Ck B c i w) (hx:wants k=some ⟨xa,false,true,true,xs⟩) (hA:¬ xa = -1) (hA2:(m:Int)=xa) (hN:n=0) (hs:nm.size≤9223372036854775807) (hM:isName nm.data.toList=true) (ht:tn.size≤9223372036854775807) (hr:tyForm 3 tn.data.toList tz=0) :
    Calls Try.prog 97 #[.pointer (some ⟨c,0,none⟩),.agg #[.int .u8 k,.int .i64 n,.string nm,.int .u8 3,.string tn,.int .i64 tz,.slice ao m cap]] w (Ends (0) w):=by
  have HB:=hid (below_two w (.cells #[.int .u8 k,.int .i64 n,.string nm,.int .u8 3,.string tn,.int .i64 tz,.slice ao m cap] 62) (.cells #[.int .i64 xa,.bool false,.bool true,.bool true,.string xs] 139))
  have hc:=h.lt
  obtain⟨-,-,m1,m2,c0,-,hM1,-⟩:=h.reads
  have hml:=hM1.lt
  have hl1:=look_x2 hM1 hx (w.alloc (.cells #[.int .u8 k,.int .i64 n,.string nm,.int .u8 3,.string tn,.int .i64 tz,.slice ao m cap] 62)).drew (Below.heap_alloc _ _ _ hml)
  have hl2:=look_x2 hM1 hx ((w.alloc (.cells #[.int .u8 k,.int .i64 n,.string nm,.int .u8 3,.string tn,.int .i64 tz,.slice ao m cap] 62)).alloc (.cells #[.int .i64 0,.bool false,.bool false,.bool false,.string ⟨#[]⟩] 139)).drew (two_heap hml _ _)
  clear h hM1 hx
  have a1:(xa == -1)=false:=beq_eq_false_iff_ne.2 hA
  have a2:((m:Int) == xa)=true:=beq_iff_eq.2 hA2
  clear hA hA2
  subst hN
  have hNM:=name_any nm hs
  rw [hM] at hNM
  have HNM:=hid hNM
  clear hNM hM
  have HT:=hid (fun w=>ctype_any 3 tz tn ht w)
  have HR:=hid hr
  clear hr
  go_enter Try.func97,Try.ntmps97
  go_wp2_with fail
  go_region
  all_goals
    go_wp2_with (first|(go_at_call 62;refine (HNM.out _).mono ?_;rintro e w' ⟨rfl,rfl⟩)|(go_at_call 75;refine (HT.out _).mono ?_;rintro e w' hq;obtain⟨rfl,hb'⟩:=hq.to0 HR.out)|(go_at_call 61;((with_reducible refine (must_yes _).mono ?_);rintro e w' ⟨rfl,rfl⟩))|(go_at_call 61;((with_reducible refine (must_no _).mono ?_);rintro e w' ⟨rfl,rfl⟩)))
    go_end0
    exact Ends.ok rfl (HB.out.trans (hb'.mono (by simp;omega)))
theorem form_ty3_221_1 (B c i:Nat) (k n tz xa:Int) (nm tn xs:ByteArray) (ao:Option Addr) (m cap:Nat) (w:World) (h:Ck B c i w) (hx:wants k=some ⟨xa,false,true,true,xs⟩) (hA:¬ xa = -1) (hA2:(m:Int)=xa) (hN:n=0) (hs:nm.size≤9223372036854775807) (hM:isName nm.data.toList=true) (ht:tn.size≤9223372036854775807) (hr:tyForm 3 tn.data.toList tz=1) :
    Calls Try.prog 97 #[.pointer (some ⟨c,0,none⟩),.agg #[.int .u8 k,.int .i64 n,.string nm,.int .u8 3,.string tn,.int .i64 tz,.slice ao m cap]] w (Ends (1) w):=by
  have HB:=hid (below_two w (.cells #[.int .u8 k,.int .i64 n,.string nm,.int .u8 3,.string tn,.int .i64 tz,.slice ao m cap] 62) (.cells #[.int .i64 xa,.bool false,.bool true,.bool true,.string xs] 139))
  have hc:=h.lt
  obtain⟨-,-,m1,m2,c0,-,hM1,-⟩:=h.reads
  have hml:=hM1.lt
  have hl1:=look_x2 hM1 hx (w.alloc (.cells #[.int .u8 k,.int .i64 n,.string nm,.int .u8 3,.string tn,.int .i64 tz,.slice ao m cap] 62)).drew (Below.heap_alloc _ _ _ hml)
  have hl2:=look_x2 hM1 hx ((w.alloc (.cells #[.int .u8 k,.int .i64 n,.string nm,.int .u8 3,.string tn,.int .i64 tz,.slice ao m cap] 62)).alloc (.cells #[.int .i64 0,.bool false,.bool false,.bool false,.string ⟨#[]⟩] 139)).drew (two_heap hml _ _)
  clear h hM1 hx
  have a1:(xa == -1)=false:=beq_eq_false_iff_ne.2 hA
  have a2:((m:Int) == xa)=true:=beq_iff_eq.2 hA2
  clear hA hA2
  subst hN
  have hNM:=name_any nm hs
  rw [hM] at hNM
  have HNM:=hid hNM
  clear hNM hM
  have HT:=hid (fun w=>ctype_any 3 tz tn ht w)
  have HR:=hid hr
  clear hr
  go_enter Try.func97,Try.ntmps97
  go_wp2_with fail
  go_region
  all_goals
    go_wp2_with (first|(go_at_call 62;refine (HNM.out _).mono ?_;rintro e w' ⟨rfl,rfl⟩)|(go_at_call 75;refine (HT.out _).mono ?_;rintro e w' hq;obtain⟨rfl,hb'⟩:=hq.to1 HR.out)|(go_at_call 61;((with_reducible refine (must_yes _).mono ?_);rintro e w' ⟨rfl,rfl⟩))|(go_at_call 61;((with_reducible refine (must_no _).mono ?_);rintro e w' ⟨rfl,rfl⟩)))
    exact⟨rfl,Ends.arg rfl (HB.out.trans (hb'.mono (by simp;omega)))⟩
theorem form_ty3_221_3 (B c i:Nat) (k n tz xa:Int) (nm tn xs:ByteArray) (ao:Option Addr) (m cap:Nat) (w:World) (h:Ck B c i w) (hx:wants k=some ⟨xa,false,true,true,xs⟩) (hA:¬ xa = -1) (hA2:(m:Int)=xa) (hN:n=0) (hs:nm.size≤9223372036854775807) (hM:isName nm.data.toList=true) (ht:tn.size≤9223372036854775807) (hr:tyForm 3 tn.data.toList tz=3) :
    Calls Try.prog 97 #[.pointer (some ⟨c,0,none⟩),.agg #[.int .u8 k,.int .i64 n,.string nm,.int .u8 3,.string tn,.int .i64 tz,.slice ao m cap]] w (Ends (3) w):=by
  have HB:=hid (below_two w (.cells #[.int .u8 k,.int .i64 n,.string nm,.int .u8 3,.string tn,.int .i64 tz,.slice ao m cap] 62) (.cells #[.int .i64 xa,.bool false,.bool true,.bool true,.string xs] 139))
  have hc:=h.lt
  obtain⟨-,-,m1,m2,c0,-,hM1,-⟩:=h.reads
  have hml:=hM1.lt
  have hl1:=look_x2 hM1 hx (w.alloc (.cells #[.int .u8 k,.int .i64 n,.string nm,.int .u8 3,.string tn,.int .i64 tz,.slice ao m cap] 62)).drew (Below.heap_alloc _ _ _ hml)
  have hl2:=look_x2 hM1 hx ((w.alloc (.cells #[.int .u8 k,.int .i64 n,.string nm,.int .u8 3,.string tn,.int .i64 tz,.slice ao m cap] 62)).alloc (.cells #[.int .i64 0,.bool false,.bool false,.bool false,.string ⟨#[]⟩] 139)).drew (two_heap hml _ _)
  clear h hM1 hx
  have a1:(xa == -1)=false:=beq_eq_false_iff_ne.2 hA
  have a2:((m:Int) == xa)=true:=beq_iff_eq.2 hA2
  clear hA hA2
  subst hN
  have hNM:=name_any nm hs
  rw [hM] at hNM
  have HNM:=hid hNM
  clear hNM hM
  have HT:=hid (fun w=>ctype_any 3 tz tn ht w)
  have HR:=hid hr
  clear hr
  go_enter Try.func97,Try.ntmps97
  go_wp2_with fail
  go_region
  all_goals
    go_wp2_with (first|(go_at_call 62;refine (HNM.out _).mono ?_;rintro e w' ⟨rfl,rfl⟩)|(go_at_call 75;refine (HT.out _).mono ?_;rintro e w' hq;obtain⟨rfl,hb'⟩:=hq.to3 HR.out)|(go_at_call 61;((with_reducible refine (must_yes _).mono ?_);rintro e w' ⟨rfl,rfl⟩))|(go_at_call 61;((with_reducible refine (must_no _).mono ?_);rintro e w' ⟨rfl,rfl⟩)))
    exact⟨rfl,Ends.limit rfl (HB.out.trans (hb'.mono (by simp;omega)))⟩
theorem form_ty3_222_0 (B c i:Nat) (k n tz xa:Int) (nm tn xs:ByteArray) (ao:Option Addr) (m cap:Nat) (w:World) (h:Ck B c i w) (hx:wants k=some ⟨xa,false,false,true,xs⟩) (hA:¬ xa = -1) (hA2:(m:Int)=xa) (hN:n=0) (hM:nm.data.toList = []) (ht:tn.size≤9223372036854775807) (hr:tyForm 3 tn.data.toList tz=0) :
    Calls Try.prog 97 #[.pointer (some ⟨c,0,none⟩),.agg #[.int .u8 k,.int .i64 n,.string nm,.int .u8 3,.string tn,.int .i64 tz,.slice ao m cap]] w (Ends (0) w):=by
  have HB:=hid (below_two w (.cells #[.int .u8 k,.int .i64 n,.string nm,.int .u8 3,.string tn,.int .i64 tz,.slice ao m cap] 62) (.cells #[.int .i64 xa,.bool false,.bool false,.bool true,.string xs] 139))
  have hc:=h.lt
  obtain⟨-,-,m1,m2,c0,-,hM1,-⟩:=h.reads
  have hml:=hM1.lt
  have hl1:=look_x2 hM1 hx (w.alloc (.cells #[.int .u8 k,.int .i64 n,.string nm,.int .u8 3,.string tn,.int .i64 tz,.slice ao m cap] 62)).drew (Below.heap_alloc _ _ _ hml)
  have hl2:=look_x2 hM1 hx ((w.alloc (.cells #[.int .u8 k,.int .i64 n,.string nm,.int .u8 3,.string tn,.int .i64 tz,.slice ao m cap] 62)).alloc (.cells #[.int .i64 0,.bool false,.bool false,.bool false,.string ⟨#[]⟩] 139)).drew (two_heap hml _ _)
  clear h hM1 hx
  have a1:(xa == -1)=false:=beq_eq_false_iff_ne.2 hA
  have a2:((m:Int) == xa)=true:=beq_iff_eq.2 hA2
  clear hA hA2
  subst hN
  have t1:=emp_yes hM
  have t2:=nil_yes hM
  clear hM
  have HT:=hid (fun w=>ctype_any 3 tz tn ht w)
  have HR:=hid hr
  clear hr
  go_enter Try.func97,Try.ntmps97
  go_wp2_with fail
  go_region
  all_goals
    go_wp2_with (first|(go_at_call 75;refine (HT.out _).mono ?_;rintro e w' hq;obtain⟨rfl,hb'⟩:=hq.to0 HR.out)|(go_at_call 61;((with_reducible refine (must_yes _).mono ?_);rintro e w' ⟨rfl,rfl⟩))|(go_at_call 61;((with_reducible refine (must_no _).mono ?_);rintro e w' ⟨rfl,rfl⟩)))
    go_end0
    exact Ends.ok rfl (HB.out.trans (hb'.mono (by simp;omega)))
theorem form_ty3_222_1 (B c i:Nat) (k n tz xa:Int) (nm tn xs:ByteArray) (ao:Option Addr) (m cap:Nat) (w:World) (h:Ck B c i w) (hx:wants k=some ⟨xa,false,false,true,xs⟩) (hA:¬ xa = -1) (hA2:(m:Int)=xa) (hN:n=0) (hM:nm.data.toList = []) (ht:tn.size≤9223372036854775807) (hr:tyForm 3 tn.data.toList tz=1) :
    Calls Try.prog 97 #[.pointer (some ⟨c,0,none⟩),.agg #[.int .u8 k,.int .i64 n,.string nm,.int .u8 3,.string tn,.int .i64 tz,.slice ao m cap]] w (Ends (1) w):=by
  have HB:=hid (below_two w (.cells #[.int .u8 k,.int .i64 n,.string nm,.int .u8 3,.string tn,.int .i64 tz,.slice ao m cap] 62) (.cells #[.int .i64 xa,.bool false,.bool false,.bool true,.string xs] 139))
  have hc:=h.lt
  obtain⟨-,-,m1,m2,c0,-,hM1,-⟩:=h.reads
  have hml:=hM1.lt
  have hl1:=look_x2 hM1 hx (w.alloc (.cells #[.int .u8 k,.int .i64 n,.string nm,.int .u8 3,.string tn,.int .i64 tz,.slice ao m cap] 62)).drew (Below.heap_alloc _ _ _ hml)
  have hl2:=look_x2 hM1 hx ((w.alloc (.cells #[.int .u8 k,.int .i64 n,.string nm,.int .u8 3,.string tn,.int .i64 tz,.slice ao m cap] 62)).alloc (.cells #[.int .i64 0,.bool false,.bool false,.bool false,.string ⟨#[]⟩] 139)).drew (two_heap hml _ _)
  clear h hM1 hx
  have a1:(xa == -1)=false:=beq_eq_false_iff_ne.2 hA
  have a2:((m:Int) == xa)=true:=beq_iff_eq.2 hA2
  clear hA hA2
  subst hN
  have t1:=emp_yes hM
  have t2:=nil_yes hM
  clear hM
  have HT:=hid (fun w=>ctype_any 3 tz tn ht w)
  have HR:=hid hr
  clear hr
  go_enter Try.func97,Try.ntmps97
  go_wp2_with fail
  go_region
  all_goals
    go_wp2_with (first|(go_at_call 75;refine (HT.out _).mono ?_;rintro e w' hq;obtain⟨rfl,hb'⟩:=hq.to1 HR.out)|(go_at_call 61;((with_reducible refine (must_yes _).mono ?_);rintro e w' ⟨rfl,rfl⟩))|(go_at_call 61;((with_reducible refine (must_no _).mono ?_);rintro e w' ⟨rfl,rfl⟩)))
    exact⟨rfl,Ends.arg rfl (HB.out.trans (hb'.mono (by simp;omega)))⟩
theorem form_ty3_222_3 (B c i:Nat) (k n tz xa:Int) (nm tn xs:ByteArray) (ao:Option Addr) (m cap:Nat) (w:World) (h:Ck B c i w) (hx:wants k=some ⟨xa,false,false,true,xs⟩) (hA:¬ xa = -1) (hA2:(m:Int)=xa) (hN:n=0) (hM:nm.data.toList = []) (ht:tn.size≤9223372036854775807) (hr:tyForm 3 tn.data.toList tz=3) :
    Calls Try.prog 97 #[.pointer (some ⟨c,0,none⟩),.agg #[.int .u8 k,.int .i64 n,.string nm,.int .u8 3,.string tn,.int .i64 tz,.slice ao m cap]] w (Ends (3) w):=by
  have HB:=hid (below_two w (.cells #[.int .u8 k,.int .i64 n,.string nm,.int .u8 3,.string tn,.int .i64 tz,.slice ao m cap] 62) (.cells #[.int .i64 xa,.bool false,.bool false,.bool true,.string xs] 139))
  have hc:=h.lt
  obtain⟨-,-,m1,m2,c0,-,hM1,-⟩:=h.reads
  have hml:=hM1.lt
  have hl1:=look_x2 hM1 hx (w.alloc (.cells #[.int .u8 k,.int .i64 n,.string nm,.int .u8 3,.string tn,.int .i64 tz,.slice ao m cap] 62)).drew (Below.heap_alloc _ _ _ hml)
  have hl2:=look_x2 hM1 hx ((w.alloc (.cells #[.int .u8 k,.int .i64 n,.string nm,.int .u8 3,.string tn,.int .i64 tz,.slice ao m cap] 62)).alloc (.cells #[.int .i64 0,.bool false,.bool false,.bool false,.string ⟨#[]⟩] 139)).drew (two_heap hml _ _)
  clear h hM1 hx
  have a1:(xa == -1)=false:=beq_eq_false_iff_ne.2 hA
  have a2:((m:Int) == xa)=true:=beq_iff_eq.2 hA2
  clear hA hA2
  subst hN
  have t1:=emp_yes hM
  have t2:=nil_yes hM
  clear hM
  have HT:=hid (fun w=>ctype_any 3 tz tn ht w)
  have HR:=hid hr
  clear hr
  go_enter Try.func97,Try.ntmps97
  go_wp2_with fail
  go_region
  all_goals
    go_wp2_with (first|(go_at_call 75;refine (HT.out _).mono ?_;rintro e w' hq;obtain⟨rfl,hb'⟩:=hq.to3 HR.out)|(go_at_call 61;((with_reducible refine (must_yes _).mono ?_);rintro e w' ⟨rfl,rfl⟩))|(go_at_call 61;((with_reducible refine (must_no _).mono ?_);rintro e w' ⟨rfl,rfl⟩)))
    exact⟨rfl,Ends.limit rfl (HB.out.trans (hb'.mono (by simp;omega)))⟩
end Go.Proofs.Ytcibiiddigpnfaa
