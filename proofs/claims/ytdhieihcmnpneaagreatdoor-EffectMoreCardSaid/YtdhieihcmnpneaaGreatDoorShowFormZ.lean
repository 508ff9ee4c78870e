/- What is wrong with an expression's own form before its type is asked, as the show layer's checker finds it. -/
import Derived.Test.YtdhieihcmnpneaaGreatDoorRows
import Derived.Test.YtdhieihcmnpneaaGreatDoorGCheck
namespace Go.Proofs.YtdhieihcmnpneaaGreatDoor
set_option maxHeartbeats 40000000
open Go.RowKit
set_option maxRecDepth 100000
theorem form_args0 (B c i:Nat) (k n tz xa:Int) (tk:Int) (nm tn xs:ByteArray) (xn xm xd:Bool) (ao:Option Addr) (m cap:Nat) (w:World) (h:Ck B c i w) (hx:wants k=some ⟨xa,xn,xm,xd,xs⟩) (a1:(xa == -1)=false) (a2:((m:Int) == xa)=false) :
    Calls Tryz.prog 119 #[.pointer (some ⟨c,0,none⟩),.agg #[.int .u8 k,.int .i64 n,.string nm,.int .u8 tk,.string tn,.int .i64 tz,.slice ao m cap]] w (Ends 1 w):=by
  have HB:=Lib.hid (below_two w (.cells #[.int .u8 k,.int .i64 n,.string nm,.int .u8 tk,.string tn,.int .i64 tz,.slice ao m cap] 62) (.cells #[.int .i64 xa,.bool xn,.bool xm,.bool xd,.string xs] 157))
  have hc:=h.lt
  obtain⟨-,-,m1,m2,c0,-,hM1,-⟩:=h.reads
  have hml:=hM1.lt
  have hl1:=look_x2 hM1 hx (w.alloc (.cells #[.int .u8 k,.int .i64 n,.string nm,.int .u8 tk,.string tn,.int .i64 tz,.slice ao m cap] 62)).drew (Below.heap_alloc _ _ _ hml)
  have hl2:=look_x2 hM1 hx ((w.alloc (.cells #[.int .u8 k,.int .i64 n,.string nm,.int .u8 tk,.string tn,.int .i64 tz,.slice ao m cap] 62)).alloc (.cells #[.int .i64 0,.bool false,.bool false,.bool false,.string ⟨#[]⟩] 157)).drew (two_heap hml _ _)
  clear h hM1 hx
  go_enter Tryz.func119,Tryz.ntmps119
  go_wp2_with fail
  go_region
  all_goals
    go_wp2_with (first|(go_at_call 75;((with_reducible refine (must_yes _).mono ?_);rintro e w' ⟨rfl,rfl⟩))|(go_at_call 75;((with_reducible refine (must_no _).mono ?_);rintro e w' ⟨rfl,rfl⟩)))
    first|(go_end0;exact Ends.ok rfl HB.out)|exact⟨rfl,Ends.arg rfl HB.out⟩
theorem form_num0 (B c i:Nat) (k n tz xa:Int) (tk:Int) (nm tn xs:ByteArray) (xn xm xd:Bool) (ao:Option Addr) (m cap:Nat) (w:World) (h:Ck B c i w) (hx:wants k=some ⟨xa,xn,xm,xd,xs⟩) (hA:(xa == -1)=true ∨ ((xa == -1)=false∧((m:Int) == xa)=true)) (hN:xn=false) (b1:(n == 0)=false) :
    Calls Tryz.prog 119 #[.pointer (some ⟨c,0,none⟩),.agg #[.int .u8 k,.int .i64 n,.string nm,.int .u8 tk,.string tn,.int .i64 tz,.slice ao m cap]] w (Ends 1 w):=by
  have HB:=Lib.hid (below_two w (.cells #[.int .u8 k,.int .i64 n,.string nm,.int .u8 tk,.string tn,.int .i64 tz,.slice ao m cap] 62) (.cells #[.int .i64 xa,.bool xn,.bool xm,.bool xd,.string xs] 157))
  have hc:=h.lt
  obtain⟨-,-,m1,m2,c0,-,hM1,-⟩:=h.reads
  have hml:=hM1.lt
  have hl1:=look_x2 hM1 hx (w.alloc (.cells #[.int .u8 k,.int .i64 n,.string nm,.int .u8 tk,.string tn,.int .i64 tz,.slice ao m cap] 62)).drew (Below.heap_alloc _ _ _ hml)
  have hl2:=look_x2 hM1 hx ((w.alloc (.cells #[.int .u8 k,.int .i64 n,.string nm,.int .u8 tk,.string tn,.int .i64 tz,.slice ao m cap] 62)).alloc (.cells #[.int .i64 0,.bool false,.bool false,.bool false,.string ⟨#[]⟩] 157)).drew (two_heap hml _ _)
  clear h hM1 hx
  subst hN
  rcases hA with a1|⟨a1,a2⟩
  all_goals
    go_enter Tryz.func119,Tryz.ntmps119
    go_wp2_with fail
    go_region
    all_goals
      go_wp2_with (first|(go_at_call 75;((with_reducible refine (must_yes _).mono ?_);rintro e w' ⟨rfl,rfl⟩))|(go_at_call 75;((with_reducible refine (must_no _).mono ?_);rintro e w' ⟨rfl,rfl⟩)))
      first|(go_end0;exact Ends.ok rfl HB.out)|exact⟨rfl,Ends.arg rfl HB.out⟩
theorem form_name0 (B c i:Nat) (k n tz xa:Int) (tk:Int) (nm tn xs:ByteArray) (xn xm xd:Bool) (ao:Option Addr) (m cap:Nat) (w:World) (h:Ck B c i w) (hx:wants k=some ⟨xa,xn,xm,xd,xs⟩) (hA:(xa == -1)=true ∨ ((xa == -1)=false∧((m:Int) == xa)=true)) (hN:xn=true ∨ (xn=false∧n=0)) (hs:nm.size≤9223372036854775807) (hM:(xm=true∧isName nm.data.toList=false) ∨ (xm=false ∧ ¬ nm.data.toList = [])) :
    Calls Tryz.prog 119 #[.pointer (some ⟨c,0,none⟩),.agg #[.int .u8 k,.int .i64 n,.string nm,.int .u8 tk,.string tn,.int .i64 tz,.slice ao m cap]] w (Ends 1 w):=by
  have HB:=Lib.hid (below_two w (.cells #[.int .u8 k,.int .i64 n,.string nm,.int .u8 tk,.string tn,.int .i64 tz,.slice ao m cap] 62) (.cells #[.int .i64 xa,.bool xn,.bool xm,.bool xd,.string xs] 157))
  have hc:=h.lt
  obtain⟨-,-,m1,m2,c0,-,hM1,-⟩:=h.reads
  have hml:=hM1.lt
  have hl1:=look_x2 hM1 hx (w.alloc (.cells #[.int .u8 k,.int .i64 n,.string nm,.int .u8 tk,.string tn,.int .i64 tz,.slice ao m cap] 62)).drew (Below.heap_alloc _ _ _ hml)
  have hl2:=look_x2 hM1 hx ((w.alloc (.cells #[.int .u8 k,.int .i64 n,.string nm,.int .u8 tk,.string tn,.int .i64 tz,.slice ao m cap] 62)).alloc (.cells #[.int .i64 0,.bool false,.bool false,.bool false,.string ⟨#[]⟩] 157)).drew (two_heap hml _ _)
  clear h hM1 hx
  rcases hA with a1|⟨a1,a2⟩ <;> rcases hN with rfl|⟨rfl,rfl⟩ <;> rcases hM with ⟨rfl,hM⟩|⟨rfl,hM⟩
  all_goals
    have hNM:=name_any nm hs
    first|have t1:=emp_no hM|rw [hM] at hNM
    have HNM:=Lib.hid hNM
    clear hNM hM
    go_enter Tryz.func119,Tryz.ntmps119
    go_wp2_with fail
    go_region
    all_goals
      go_wp2_with (first|(go_at_call 76;refine (HNM.out _).mono ?_;rintro e w' ⟨rfl,rfl⟩)|(go_at_call 75;((with_reducible refine (must_yes _).mono ?_);rintro e w' ⟨rfl,rfl⟩))|(go_at_call 75;((with_reducible refine (must_no _).mono ?_);rintro e w' ⟨rfl,rfl⟩)))
      first|(go_end0;exact Ends.ok rfl HB.out)|exact⟨rfl,Ends.arg rfl HB.out⟩
end Go.Proofs.YtdhieihcmnpneaaGreatDoor
namespace Go.Proofs.YtdhieihcmnpneaaGreatDoor
set_option maxHeartbeats 40000000
open Go.RowKit
set_option maxRecDepth 100000
theorem form_ty2 (B c i:Nat) (k n tz xa:Int) (nm tn xs:ByteArray) (xn xm:Bool) (ao:Option Addr) (m cap:Nat) (w:World) (h:Ck B c i w) (hx:wants k=some ⟨xa,xn,xm,true,xs⟩) (hA:(xa == -1)=true ∨ ((xa == -1)=false∧((m:Int) == xa)=true)) (hN:xn=true ∨ (xn=false∧n=0)) (hs:nm.size≤9223372036854775807) (hM:(xm=true∧isName nm.data.toList=true) ∨ (xm=false∧nm.data.toList = [])) (ht:tn.size≤9223372036854775807) :
    Calls Tryz.prog 119 #[.pointer (some ⟨c,0,none⟩),.agg #[.int .u8 k,.int .i64 n,.string nm,.int .u8 2,.string tn,.int .i64 tz,.slice ao m cap]] w (Ends (tyForm 2 tn.data.toList tz) w):=by
  have HB:=Lib.hid (below_two w (.cells #[.int .u8 k,.int .i64 n,.string nm,.int .u8 2,.string tn,.int .i64 tz,.slice ao m cap] 62) (.cells #[.int .i64 xa,.bool xn,.bool xm,.bool true,.string xs] 157))
  have hc:=h.lt
  obtain⟨-,-,m1,m2,c0,-,hM1,-⟩:=h.reads
  have hml:=hM1.lt
  have hl1:=look_x2 hM1 hx (w.alloc (.cells #[.int .u8 k,.int .i64 n,.string nm,.int .u8 2,.string tn,.int .i64 tz,.slice ao m cap] 62)).drew (Below.heap_alloc _ _ _ hml)
  have hl2:=look_x2 hM1 hx ((w.alloc (.cells #[.int .u8 k,.int .i64 n,.string nm,.int .u8 2,.string tn,.int .i64 tz,.slice ao m cap] 62)).alloc (.cells #[.int .i64 0,.bool false,.bool false,.bool false,.string ⟨#[]⟩] 157)).drew (two_heap hml _ _)
  clear h hM1 hx
  have HT:=Lib.hid (fun w=>ctype_any 2 tz tn ht w)
  rcases hA with a1|⟨a1,a2⟩ <;> rcases hN with rfl|⟨rfl,rfl⟩ <;> rcases hM with ⟨rfl,hM⟩|⟨rfl,hM⟩ <;> rcases tyForm_cases 2 tn.data.toList tz with hr|hr|hr
  all_goals
    have HR:=Lib.hid hr
    rw [hr]
    clear hr
    have hNM:=name_any nm hs
    first|(have t1:=emp_yes hM;have t2:=nil_yes hM)|rw [hM] at hNM
    have HNM:=Lib.hid hNM
    clear hNM hM
    go_enter Tryz.func119,Tryz.ntmps119
    go_wp2_with fail
    go_region
    all_goals
      go_wp2_with (first|(go_at_call 76;refine (HNM.out _).mono ?_;rintro e w' ⟨rfl,rfl⟩)|(go_at_call 94;refine (HT.out _).mono ?_;rintro e w' hq;(first|have hq:=hq.to0 HR.out|have hq:=hq.to1 HR.out|have hq:=hq.to3 HR.out);obtain⟨rfl,hb'⟩:=hq)|(go_at_call 75;((with_reducible refine (must_yes _).mono ?_);rintro e w' ⟨rfl,rfl⟩))|(go_at_call 75;((with_reducible refine (must_no _).mono ?_);rintro e w' ⟨rfl,rfl⟩)))
      first|(go_end0;exact Ends.ok rfl (HB.out.trans (hb'.mono (by simp;omega))))|exact⟨rfl,Ends.arg rfl (HB.out.trans (hb'.mono (by simp;omega)))⟩|exact⟨rfl,Ends.limit rfl (HB.out.trans (hb'.mono (by simp;omega)))⟩
end Go.Proofs.YtdhieihcmnpneaaGreatDoor
namespace Go.Proofs.YtdhieihcmnpneaaGreatDoor
set_option maxHeartbeats 40000000
open Go.RowKit
set_option maxRecDepth 100000
theorem form_ty3 (B c i:Nat) (k n tz xa:Int) (nm tn xs:ByteArray) (xn xm:Bool) (ao:Option Addr) (m cap:Nat) (w:World) (h:Ck B c i w) (hx:wants k=some ⟨xa,xn,xm,true,xs⟩) (hA:(xa == -1)=true ∨ ((xa == -1)=false∧((m:Int) == xa)=true)) (hN:xn=true ∨ (xn=false∧n=0)) (hs:nm.size≤9223372036854775807) (hM:(xm=true∧isName nm.data.toList=true) ∨ (xm=false∧nm.data.toList = [])) (ht:tn.size≤9223372036854775807) :
    Calls Tryz.prog 119 #[.pointer (some ⟨c,0,none⟩),.agg #[.int .u8 k,.int .i64 n,.string nm,.int .u8 3,.string tn,.int .i64 tz,.slice ao m cap]] w (Ends (tyForm 3 tn.data.toList tz) w):=by
  have HB:=Lib.hid (below_two w (.cells #[.int .u8 k,.int .i64 n,.string nm,.int .u8 3,.string tn,.int .i64 tz,.slice ao m cap] 62) (.cells #[.int .i64 xa,.bool xn,.bool xm,.bool true,.string xs] 157))
  have hc:=h.lt
  obtain⟨-,-,m1,m2,c0,-,hM1,-⟩:=h.reads
  have hml:=hM1.lt
  have hl1:=look_x2 hM1 hx (w.alloc (.cells #[.int .u8 k,.int .i64 n,.string nm,.int .u8 3,.string tn,.int .i64 tz,.slice ao m cap] 62)).drew (Below.heap_alloc _ _ _ hml)
  have hl2:=look_x2 hM1 hx ((w.alloc (.cells #[.int .u8 k,.int .i64 n,.string nm,.int .u8 3,.string tn,.int .i64 tz,.slice ao m cap] 62)).alloc (.cells #[.int .i64 0,.bool false,.bool false,.bool false,.string ⟨#[]⟩] 157)).drew (two_heap hml _ _)
  clear h hM1 hx
  have HT:=Lib.hid (fun w=>ctype_any 3 tz tn ht w)
  rcases hA with a1|⟨a1,a2⟩ <;> rcases hN with rfl|⟨rfl,rfl⟩ <;> rcases hM with ⟨rfl,hM⟩|⟨rfl,hM⟩ <;> rcases tyForm_cases 3 tn.data.toList tz with hr|hr|hr
  all_goals
    have HR:=Lib.hid hr
    rw [hr]
    clear hr
    have hNM:=name_any nm hs
    first|(have t1:=emp_yes hM;have t2:=nil_yes hM)|rw [hM] at hNM
    have HNM:=Lib.hid hNM
    clear hNM hM
    go_enter Tryz.func119,Tryz.ntmps119
    go_wp2_with fail
    go_region
    all_goals
      go_wp2_with (first|(go_at_call 76;refine (HNM.out _).mono ?_;rintro e w' ⟨rfl,rfl⟩)|(go_at_call 94;refine (HT.out _).mono ?_;rintro e w' hq;(first|have hq:=hq.to0 HR.out|have hq:=hq.to1 HR.out|have hq:=hq.to3 HR.out);obtain⟨rfl,hb'⟩:=hq)|(go_at_call 75;((with_reducible refine (must_yes _).mono ?_);rintro e w' ⟨rfl,rfl⟩))|(go_at_call 75;((with_reducible refine (must_no _).mono ?_);rintro e w' ⟨rfl,rfl⟩)))
      first|(go_end0;exact Ends.ok rfl (HB.out.trans (hb'.mono (by simp;omega))))|exact⟨rfl,Ends.arg rfl (HB.out.trans (hb'.mono (by simp;omega)))⟩|exact⟨rfl,Ends.limit rfl (HB.out.trans (hb'.mono (by simp;omega)))⟩
end Go.Proofs.YtdhieihcmnpneaaGreatDoor
namespace Go.Proofs.YtdhieihcmnpneaaGreatDoor
set_option maxHeartbeats 40000000
open Go.RowKit
set_option maxRecDepth 100000
theorem form_z (B c i:Nat) (k n tz xa:Int) (tk:Int) (nm tn xs:ByteArray) (xn xm:Bool) (ao:Option Addr) (m cap:Nat) (w:World) (h:Ck B c i w) (hx:wants k=some ⟨xa,xn,xm,false,xs⟩) (hA:(xa == -1)=true ∨ ((xa == -1)=false∧((m:Int) == xa)=true)) (hN:xn=true ∨ (xn=false∧n=0)) (hs:nm.size≤9223372036854775807) (hM:(xm=true∧isName nm.data.toList=true) ∨ (xm=false∧nm.data.toList = [])) :
    Calls Tryz.prog 119 #[.pointer (some ⟨c,0,none⟩),.agg #[.int .u8 k,.int .i64 n,.string nm,.int .u8 tk,.string tn,.int .i64 tz,.slice ao m cap]] w (Ends (if noTy tk tn tz=true then 0 else 1) w):=by
  have HB:=Lib.hid (below_two w (.cells #[.int .u8 k,.int .i64 n,.string nm,.int .u8 tk,.string tn,.int .i64 tz,.slice ao m cap] 62) (.cells #[.int .i64 xa,.bool xn,.bool xm,.bool false,.string xs] 157))
  have hc:=h.lt
  obtain⟨-,-,m1,m2,c0,-,hM1,-⟩:=h.reads
  have hml:=hM1.lt
  have hl1:=look_x2 hM1 hx (w.alloc (.cells #[.int .u8 k,.int .i64 n,.string nm,.int .u8 tk,.string tn,.int .i64 tz,.slice ao m cap] 62)).drew (Below.heap_alloc _ _ _ hml)
  have hl2:=look_x2 hM1 hx ((w.alloc (.cells #[.int .u8 k,.int .i64 n,.string nm,.int .u8 tk,.string tn,.int .i64 tz,.slice ao m cap] 62)).alloc (.cells #[.int .i64 0,.bool false,.bool false,.bool false,.string ⟨#[]⟩] 157)).drew (two_heap hml _ _)
  clear h hM1 hx
  rcases hA with a1|⟨a1,a2⟩ <;> rcases hN with rfl|⟨rfl,rfl⟩ <;> rcases hM with ⟨rfl,hM⟩|⟨rfl,hM⟩ <;> cases hz:noTy tk tn tz
  all_goals
    have hq:=noty_is hz
    clear hz
    first|rw [if_pos rfl] | rw [if_neg (by decide)]
    have hNM:=name_any nm hs
    first|(have t1:=emp_yes hM;have t2:=nil_yes hM)|rw [hM] at hNM
    have HNM:=Lib.hid hNM
    clear hNM hM
    go_enter Tryz.func119,Tryz.ntmps119
    go_wp2_with fail
    go_region
    all_goals
      go_wp2_with (first|(go_at_call 76;refine (HNM.out _).mono ?_;rintro e w' ⟨rfl,rfl⟩)|(go_at_call 75;((with_reducible refine (must_yes _).mono ?_);rintro e w' ⟨rfl,rfl⟩))|(go_at_call 75;((with_reducible refine (must_no _).mono ?_);rintro e w' ⟨rfl,rfl⟩)))
      first|(go_end0;exact Ends.ok rfl HB.out)|exact⟨rfl,Ends.arg rfl HB.out⟩
theorem form_ty0 (B c i:Nat) (k n tz xa:Int) (tk:Int) (nm tn xs:ByteArray) (xn xm:Bool) (ao:Option Addr) (m cap:Nat) (w:World) (h:Ck B c i w) (hx:wants k=some ⟨xa,xn,xm,true,xs⟩) (hA:(xa == -1)=true ∨ ((xa == -1)=false∧((m:Int) == xa)=true)) (hN:xn=true ∨ (xn=false∧n=0)) (hs:nm.size≤9223372036854775807) (hM:(xm=true∧isName nm.data.toList=true) ∨ (xm=false∧nm.data.toList = [])) (u2:(tk == 2)=false) (u3:(tk == 3)=false) :
    Calls Tryz.prog 119 #[.pointer (some ⟨c,0,none⟩),.agg #[.int .u8 k,.int .i64 n,.string nm,.int .u8 tk,.string tn,.int .i64 tz,.slice ao m cap]] w (Ends 1 w):=by
  have HB:=Lib.hid (below_two w (.cells #[.int .u8 k,.int .i64 n,.string nm,.int .u8 tk,.string tn,.int .i64 tz,.slice ao m cap] 62) (.cells #[.int .i64 xa,.bool xn,.bool xm,.bool true,.string xs] 157))
  have hc:=h.lt
  obtain⟨-,-,m1,m2,c0,-,hM1,-⟩:=h.reads
  have hml:=hM1.lt
  have hl1:=look_x2 hM1 hx (w.alloc (.cells #[.int .u8 k,.int .i64 n,.string nm,.int .u8 tk,.string tn,.int .i64 tz,.slice ao m cap] 62)).drew (Below.heap_alloc _ _ _ hml)
  have hl2:=look_x2 hM1 hx ((w.alloc (.cells #[.int .u8 k,.int .i64 n,.string nm,.int .u8 tk,.string tn,.int .i64 tz,.slice ao m cap] 62)).alloc (.cells #[.int .i64 0,.bool false,.bool false,.bool false,.string ⟨#[]⟩] 157)).drew (two_heap hml _ _)
  clear h hM1 hx
  rcases hA with a1|⟨a1,a2⟩ <;> rcases hN with rfl|⟨rfl,rfl⟩ <;> rcases hM with ⟨rfl,hM⟩|⟨rfl,hM⟩
  all_goals
    have hNM:=name_any nm hs
    first|(have t1:=emp_yes hM;have t2:=nil_yes hM)|rw [hM] at hNM
    have HNM:=Lib.hid hNM
    clear hNM hM
    go_enter Tryz.func119,Tryz.ntmps119
    go_wp2_with fail
    go_region
    all_goals
      go_wp2_with (first|(go_at_call 76;refine (HNM.out _).mono ?_;rintro e w' ⟨rfl,rfl⟩)|(go_at_call 75;((with_reducible refine (must_yes _).mono ?_);rintro e w' ⟨rfl,rfl⟩))|(go_at_call 75;((with_reducible refine (must_no _).mono ?_);rintro e w' ⟨rfl,rfl⟩)))
      first|(go_end0;exact Ends.ok rfl HB.out)|exact⟨rfl,Ends.arg rfl HB.out⟩
end Go.Proofs.YtdhieihcmnpneaaGreatDoor
