/- What the types layer finds of a variable, of a return. -/
import Derived.Test.YtdhieihcmnpneaaGreatDoorRows
import Derived.Test.YtdhieihcmnpneaaGreatDoorTypWt
import Derived.Test.YtdhieihcmnpneaaGreatDoorTypExpr
namespace Go.Proofs.YtdhieihcmnpneaaGreatDoor
open Lib (hid)
set_option maxRecDepth 100000
set_option maxHeartbeats 1000000
open Go.RowKit
attribute [local go_sem ↓] Go.wp_at_zero Go.wp_at_succ loadS_eq loadX_eq
def VarE (p:Int) (r:Except Int (List Fd)) (w:World) (e:Ending) (w':World):Prop:=
  Below w.heap.size w w'∧(∀ l,r = .ok l→∃ g,e = .returned (.pointer g)∧Lc w' (.pointer g) l)∧(∀ k,r = .error k→e = .panicked (ft p k))
theorem VarE.no {p:Int} {r:Except Int (List Fd)} {k:Int} {w w':World} (hr:r = .error k) (hb:Below w.heap.size w w'):VarE p r w (.panicked (ft p k)) w':=
  ⟨hb,(fun u e=>by rw [hr] at e;cases e),(fun k e=>by rw [hr] at e;cases e;rfl)⟩
theorem VarE.ok {p:Int} {r:Except Int (List Fd)} {l:List Fd} {w w':World} (hr:r = .ok l) (hb:Below w.heap.size w w') {g:Option Addr} (hl:Lc w' (.pointer g) l):VarE p r w (.returned (.pointer g)) w':=
  ⟨hb,(fun u e=>by rw [hr] at e;cases e;exact⟨g,rfl,hl⟩),(fun k e=>by rw [hr] at e;cases e)⟩
def bindT (r:Except Int Ty) (u:Ty) (l:List Fd):Except Int (List Fd):=match r with
  | .error k=>.error k
  | .ok t=>if fitsT t u=true then .ok l else .error 10
def AskE (p:Int) (r:Except Int Unit) (w:World) (e:Ending) (w':World):Prop:=
  Below w.heap.size w w'∧(r = .ok ()→e = .returned (.tuple #[]))∧(∀ k,r = .error k→e = .panicked (ft p k))
theorem AskE.no {p:Int} {r:Except Int Unit} {k:Int} {w w':World} (hr:r = .error k) (hb:Below w.heap.size w w'):AskE p r w (.panicked (ft p k)) w':=
  ⟨hb,(fun e=>by rw [hr] at e;cases e),(fun k e=>by rw [hr] at e;cases e;rfl)⟩
theorem AskE.ok {p:Int} {r:Except Int Unit} {w w':World} (hr:r = .ok ()) (hb:Below w.heap.size w w'):AskE p r w (.returned (.tuple #[])) w':=
  ⟨hb,(fun _=>rfl),(fun k e=>by rw [hr] at e;cases e)⟩
theorem variable_any (s:St) (c:Nat) (e:En) (tv:Value) (p:Int) (res:Ty) (loc:List Fd) (v:Value) (w:World) (h:Tk c e tv p res w) (hI:SIn w w.heap.size s) (hF:s.x.hd.k ≠ 0→Fine s.x∧X.size s.x≤1024) (hL:Lc w v loc) :
    Calls Tryz.prog 97 #[.pointer (some ⟨c,0,none⟩),.agg s.arr,v] w (VarE p (if declE e loc ⟨s.h.name,s.h.t⟩ ≠ 0 then .error (declE e loc ⟨s.h.name,s.h.t⟩)
     else if s.x.hd.k=0 then .ok (⟨s.h.name,s.h.t⟩ :: loc)
     else match valueT e loc s.x with
       | .error k=>.error k
       | .ok t=>if fitsT t s.h.t=true then .ok (⟨s.h.name,s.h.t⟩ :: loc) else .error 10) w):=by
  obtain⟨ao,rfl⟩:=lc_ptr hL
  have hXI:InW w w.heap.size s.x:=by cases hI;assumption
  obtain⟨xo,xc,ex⟩:=x_slice hXI
  obtain⟨xl,hxl⟩:∃ n,n=s.x.args.length:=⟨_,rfl⟩
  obtain⟨W1,hW1⟩:∃ W1,W1=w.alloc (.cells s.arr 64):=⟨_,rfl⟩
  have hb1:Below w.heap.size w W1:=by rw [hW1];exact below_box w _
  have hz1:W1.heap.size=w.heap.size+1:=by rw [hW1];simp
  have hO:W1.heap[w.heap.size]? = some (.cells s.arr 64 (0,0)):=by rw [hW1];exact (MapKept.heap_alloc _ _).1
  obtain⟨d,hd⟩:∃ d,d=declE e loc ⟨s.h.name,s.h.t⟩:=⟨_,rfl⟩
  obtain⟨R0,hR0⟩:∃ R:Except Int (List Fd),R=(if declE e loc ⟨s.h.name,s.h.t⟩ ≠ 0 then .error (declE e loc ⟨s.h.name,s.h.t⟩)
     else if s.x.hd.k=0 then .ok (⟨s.h.name,s.h.t⟩ :: loc)
     else match valueT e loc s.x with
       | .error k=>.error k
       | .ok t=>if fitsT t s.h.t=true then .ok (⟨s.h.name,s.h.t⟩ :: loc) else .error 10):=⟨_,rfl⟩
  rw [← hR0]
  have HD:=hid (declared_any c e tv p res loc (.pointer ao) ⟨s.h.name,s.h.t⟩ W1 (h.kept hb1) (hL.below hb1))
  rw [← hd] at HD hR0
  have HR0:=hid hR0
  have hV:=val_of ex
  rw [← hxl] at hV
  have HV:=hid hV
  have HB:=hid hb1
  have HO:=hid hO
  have HW:=hid hW1
  have HT:=hid (h.kept hb1)
  have HL:=hid (hL.below hb1)
  have HXI:=hid (InW.keeps hb1 _ hXI)
  have HF:=hid hF
  have hK:(s.cells)[5]? = some (.int .u8 s.x.hd.k):=rfl
  have s5:=st_cell hO 5 _ hK
  obtain⟨s0,s1,s2,s3,s4,s19,s20⟩:=st_h hO
  rw [hW1] at s0 s1 s2 s3 s4 s5
  clear h hI hXI hL hb1 hW1 hO hV ex hxl hd hF hK s19 s20 hR0
  go_enter Tryz.func97,Tryz.ntmps97
  go_wp2_with fail
  rw [← HW.out]
  refine HD.out.mono ?_;rintro e' w3 ⟨hb3,hy,hn⟩
  by_cases hd0:d=0
  rotate_left
  · obtain rfl:=hn hd0
    exact⟨rfl,VarE.no (by rw [HR0.out,if_pos hd0]) (HB.out.trans (hb3.mono (by omega)))⟩
  obtain⟨lo,rfl,hl3⟩:=hy hd0
  have hs3:=hb3.size
  have HB3:=hid (HB.out.trans (hb3.mono (by omega)))
  have HT3:=hid (HT.out.kept hb3)
  have HL3:=hid hl3
  have HLA:=hid (HL.out.below hb3)
  have HXI3:=hid (InW.keeps (hb3.mono (by omega)) _ HXI.out)
  have hO3:=(hb3.block _ (by omega)).trans HO.out
  have HO3:=hid hO3
  have hK:(s.cells)[5]? = some (.int .u8 s.x.hd.k):=rfl
  have s5':=st_cell hO3 5 _ hK
  have hR0:=HR0.out
  rw [if_neg (fun q=>q hd0)] at hR0
  clear HR0
  clear hb3 hy hn s0 s1 s2 s3 s4 s5
  obtain⟨-,-,s2,s3,s4,-,-⟩:=st_h hO3
  clear hO3 hK
  by_cases hx0:s.x.hd.k=0
  · have HR:=hid (show R0 = .ok (⟨s.h.name,s.h.t⟩ :: loc) by rw [hR0,if_pos hx0])
    have hq0:(s.x.hd.k != 0)=false:=by simp [hx0]
    clear hx0 hR0
    go_wp2_with fail
    go_ret
    exact VarE.ok HR.out HB3.out HL3.out
  · have HR:=hid (show R0=bindT (valueT e loc s.x) s.h.t (⟨s.h.name,s.h.t⟩ :: loc) by rw [hR0,if_neg hx0] <;> rfl)
    obtain⟨hFx,hFs⟩:=HF.out hx0
    have hVA:=value_of s.x (expr_all s.x) c e tv p res loc (.pointer ao) w3.drew HT3.out.drew ((InW.keeps ((Below.refl _ _).drew) _ HXI3.out).up (show w.heap.size≤w3.drew.heap.size by show _≤w3.heap.size;omega)) hFx hFs HLA.out.drew
    rw [HV.out] at hVA
    have HVA:=hid hVA
    have hq0:(s.x.hd.k != 0)=true:=bne_iff_ne.2 hx0
    clear hx0 hR0 hFx hFs hVA
    go_wp2_with fail
    refine wp_region_held_drew (S:=SameTo (w3.heap.size) w3) (by kernel_rfl) (SameTo.drew _ _) (fun hSw=>?_)
    refine wt (i:=0) (oi:={ dst:=some 20,op:=Op.move (Operand.tmp 0),type:=73,pos := "check.go:149", after:=#[],guard:=none }) (v:=.pointer (some ⟨c,0,none⟩)) (fun W hW=>?_) hSw ?_
    · first|(go_simp;done)|rfl
    try simp only [Act.put,q1,q2,q3]
    refine wt (i:=1) (oi:={ dst:=some 21,op:=Op.move (Operand.tmp 0),type:=73,pos := "check.go:149", after:=#[],guard:=none }) (v:=.pointer (some ⟨c,0,none⟩)) (fun W hW=>?_) hSw ?_
    · first|(go_simp;done)|rfl
    try simp only [Act.put,q1,q2,q3]
    refine wt (i:=2) (oi:={ dst:=some 22,op:=Op.fieldAddr 64 (Operand.tmp 4) 3,type:=0,pos := "check.go:149", after:=#[],guard:=none }) (v:=.pointer (some ⟨w.heap.size,5,none⟩)) (fun W hW=>?_) hSw ?_
    · first|(go_simp;done)|rfl
    try simp only [Act.put,q1,q2,q3]
    refine wt (i:=3) (oi:={ dst:=some 23,op:=Op.load 62 (Operand.tmp 22),type:=62,pos := "check.go:149", after:=#[gd 2],guard:=none }) (v:=.agg #[.int .u8 s.x.hd.k,.int .i64 s.x.hd.n,.string s.x.hd.name,.int .u8 s.x.hd.tk,.string s.x.hd.tn,.int .i64 s.x.hd.tz,.slice xo xl xc]) (fun W hW=>?_) hSw ?_
    · have hLX:=st_x ((hW _ (by omega)).trans HO3.out)
      rw [HV.out] at hLX
      first|(go_simp;done)|rfl
    try simp only [Act.put,q1,q2,q3]
    refine wt (i:=4) (oi:={ dst:=some 24,op:=Op.move (Operand.tmp 2),type:=148,pos := "check.go:149", after:=#[],guard:=none }) (v:=.pointer ao) (fun W hW=>?_) hSw ?_
    · first|(go_simp;done)|rfl
    try simp only [Act.put,q1,q2,q3]
    refine wt (i:=6) (oi:={ dst:=some 26,op:=Op.fieldAddr 64 (Operand.tmp 4) 2,type:=0,pos := "check.go:149", after:=#[],guard:=none }) (v:=.pointer (some ⟨w.heap.size,2,none⟩)) (fun W hW=>?_) hSw ?_
    · first|(go_simp;done)|rfl
    try simp only [Act.put,q1,q2,q3]
    refine wt (i:=7) (oi:={ dst:=some 27,op:=Op.load 30 (Operand.tmp 26),type:=30,pos := "check.go:149", after:=#[gd 6],guard:=none }) (v:=.agg #[.int .u8 s.h.t.k,.string s.h.t.n,.int .i64 s.h.t.z]) (fun W hW=>?_) hSw ?_
    · have s2:=hW.cell (by dsimp only;omega) s2
      have s3:=hW.cell (by dsimp only;omega) s3
      have s4:=hW.cell (by dsimp only;omega) s4
      first|(go_simp;done)|rfl
    try simp only [Act.put,q1,q2,q3]
    refine wpAnyH_ready (rs:=[5]) (by kernel_rfl) (by simp) ?_
    refine AllReadyH.cons (o:={ dst:=some 25,op:=Op.call { callee:=Callee.value (Operand.func 98),args:=#[Operand.tmp 21,Operand.tmp 23,Operand.tmp 24],argTypes:=#[73,62,148] },type:=30,pos := "check.go:149", after:=#[gd 1,gd 3,gd 4],guard:=none }) rfl (fun K hK=>?_) AllReadyH.nil
    rw [if_pos (by rfl)]
    clear hSw
    go_simp
    refine (HVA.out).mono ?_;rintro e' w5 hq
    cases hRc:valueT e loc s.x with
    | error k =>
      obtain⟨rfl,hb5⟩:=hq.not hRc
      exact⟨rfl,VarE.no (by rw [HR.out,hRc];rfl) (HB3.out.trans ((below_tape hb5).mono (show w.heap.size≤w3.heap.size by omega)))⟩
    | ok t =>
    obtain⟨he,hb5⟩:=hq.yes hRc
    obtain⟨ak,an,az⟩:=t
    replace he:e' = .returned (.agg #[.int .u8 ak,.string an,.int .i64 az]):=he
    subst he
    replace hb5:Below w3.heap.size w3 w5:=below_tape hb5
    have hs5:=hb5.size
    have HRC:=hid hRc
    have HB5:=hid (HB3.out.trans (hb5.mono (by omega)))
    have HL5:=hid (HL3.out.below hb5)
    have HS5:=hid (SameTo.of hb5)
    have HFT:=hid (fit_any c e tv p res ⟨ak,an,az⟩ ⟨s.h.t.k,s.h.t.n,s.h.t.z⟩ w5 (HT3.out.kept hb5))
    clear hb5 hq hRc
    refine hK.out _ _ (HS5.out) (fun hSw=>?_)
    clear hK K
    try simp only [Act.put,q1,q2,q3]
    refine wpAnyH_ready (rs:=[8]) (by kernel_rfl) (by simp) ?_
    refine AllReadyH.cons (o:={ dst:=some 28,op:=Op.call { callee:=Callee.value (Operand.func 99),args:=#[Operand.tmp 20,Operand.tmp 25,Operand.tmp 27],argTypes:=#[73,30,30] },type:=0,pos := "check.go:149", after:=#[gd 0,gd 5,gd 7,gc 5],guard:=none }) rfl (fun K hK=>?_) AllReadyH.nil
    rw [if_pos (by rfl)]
    clear hSw
    go_simp
    refine HFT.out.mono ?_;rintro e' w6 ⟨he,hb6⟩
    have hs6:=hb6.size
    have HB6:=hid (HB5.out.trans (hb6.mono (by omega)))
    have HL6:=hid (HL5.out.below hb6)
    have HS6:=hid (HS5.out.trans (SameTo.of (hb6.mono (by omega))))
    clear hb6
    by_cases hft:fitsT ⟨ak,an,az⟩ ⟨s.h.t.k,s.h.t.n,s.h.t.z⟩ = true
    rotate_left
    · rw [if_neg hft,askE_no (by decide)] at he
      subst he
      exact⟨rfl,VarE.no (by rw [HR.out,HRC.out];exact if_neg hft) HB6.out⟩
    rw [if_pos hft,askE_0 rfl] at he
    subst he
    have HRF:=hid (show R0 = .ok (⟨s.h.name,⟨s.h.t.k,s.h.t.n,s.h.t.z⟩⟩ :: loc) by rw [HR.out,HRC.out];exact if_pos hft)
    clear hft
    refine hK.out _ _ (HS6.out) (fun hSw=>?_)
    clear hK K
    try simp only [Act.put,q1,q2,q3]
    refine wpAnyH_done (by kernel_rfl) ?_ _
    go_wp2_with fail
    go_ret
    exact VarE.ok HRF.out HB6.out HL6.out
end Go.Proofs.YtdhieihcmnpneaaGreatDoor
/- What the types layer finds of a return. -/
namespace Go.Proofs.YtdhieihcmnpneaaGreatDoor
open Lib (hid)
set_option maxRecDepth 100000
set_option maxHeartbeats 1000000
open Go.RowKit
attribute [local go_sem ↓] Go.wp_at_zero Go.wp_at_succ
def backT (e:En) (res:Ty) (loc:List Fd) (x:X):Except Int Unit:=
  if x.hd.k=0 then (if res.k=0 then .ok () else .error 10) else match valueT e loc x with
    | .error k=>.error k
    | .ok t=>if fitsT t res=true then .ok () else .error 10
def bindU (r:Except Int Ty) (u:Ty):Except Int Unit:=match r with
  | .error k=>.error k
  | .ok t=>if fitsT t u=true then .ok () else .error 10
theorem back_any (x:X) (c:Nat) (e:En) (tv:Value) (p:Int) (res:Ty) (loc:List Fd) (v:Value) (w:World) (h:Tk c e tv p res w) (hI:InW w w.heap.size x) (hF:x.hd.k ≠ 0→Fine x∧X.size x≤1024) (hL:Lc w v loc) :
    Calls Tryz.prog 101 #[.pointer (some ⟨c,0,none⟩),x.val,v] w (AskE p (backT e res loc x) w):=by
  obtain⟨ao,rfl⟩:=lc_ptr hL
  obtain⟨xo,xc,ex⟩:=x_slice hI
  obtain⟨xl,hxl⟩:∃ n,n=x.args.length:=⟨_,rfl⟩
  have hV:=val_of ex
  rw [← hxl] at hV
  obtain⟨R,hR⟩:∃ R,R=backT e res loc x:=⟨_,rfl⟩
  rw [← hR,hV]
  obtain⟨W1,hW1⟩:∃ W1,W1=w.alloc (.cells #[.int .u8 x.hd.k,.int .i64 x.hd.n,.string x.hd.name,.int .u8 x.hd.tk,.string x.hd.tn,.int .i64 x.hd.tz,.slice xo xl xc] 62):=⟨_,rfl⟩
  have hb1:Below w.heap.size w W1:=by rw [hW1];exact below_box w _
  have hz1:W1.heap.size=w.heap.size+1:=by rw [hW1];simp
  have hO:W1.heap[w.heap.size]? = some (.cells #[.int .u8 x.hd.k,.int .i64 x.hd.n,.string x.hd.name,.int .u8 x.hd.tk,.string x.hd.tn,.int .i64 x.hd.tz,.slice xo xl xc] 62 (0,0)):=by rw [hW1];exact (MapKept.heap_alloc _ _).1
  have hlt:=h.lt
  have h1:=h.kept hb1
  obtain⟨K,⟨-,-,-,-,-,-,-,-,q8,q9,q10,q11⟩,-⟩:=h1.cells
  obtain⟨b0,b1,b2,b3,b4,b5,b6⟩:=own7 hO
  have HT:=hid h1
  have HL:=hid (hL.below hb1)
  have HXI:=hid (InW.keeps hb1 _ hI)
  have HF:=hid hF
  have HB:=hid hb1
  have HW:=hid hW1
  have HV:=hid hV
  have HRR:=hid hR
  rw [hW1] at b0
  clear h hI hF hL hb1 h1 hO hW1 hV ex hxl hR
  by_cases hx0:x.hd.k=0
  · have hq0:(x.hd.k == 0)=true:=beq_iff_eq.2 hx0
    obtain⟨d,hd⟩:∃ d,d=(res.k == 0):=⟨_,rfl⟩
    have HR:=hid (show R=if d=true then .ok () else .error 10 by rw [HRR.out,hd];unfold backT;rw [if_pos hx0];simp)
    rw [HW.out] at q9
    clear hx0
    go_enter Tryz.func101,Tryz.ntmps101
    go_wp2_with fail
    rw [← HW.out]
    rw [← hd]
    refine (tmust_any c p 10 d W1 q8 (by decide)).mono ?_;rintro e' w' ⟨he,rfl⟩
    cases d with
    | true =>
      rw [if_pos rfl,askE_0 rfl] at he
      subst he
      have HRF:=hid (show R = .ok () from HR.out)
      clear hd
      go_wp2_with fail
      go_end0
      exact AskE.ok HRF.out HB.out
    | false =>
      rw [if_neg (by decide),askE_no (by decide)] at he
      subst he
      exact⟨rfl,AskE.no (show R = .error 10 from HR.out) HB.out⟩
  · have hq0:(x.hd.k == 0)=false:=beq_eq_false_iff_ne.2 hx0
    have HR:=hid (show R=bindU (valueT e loc x) ⟨res.k,res.n,res.z⟩ by rw [HRR.out];unfold backT;rw [if_neg hx0] <;> rfl)
    obtain⟨hFx,hFs⟩:=HF.out hx0
    have hVA:=value_of x (expr_all x) c e tv p res loc (.pointer ao) W1.drew HT.out.drew ((InW.keeps ((Below.refl _ _).drew) _ HXI.out).up (show w.heap.size≤W1.drew.heap.size by show _≤W1.heap.size;omega)) hFx hFs HL.out.drew
    rw [HV.out] at hVA
    have HVA:=hid hVA
    clear hx0 hFx hFs hVA
    go_enter Tryz.func101,Tryz.ntmps101
    go_wp2_with fail
    rw [← HW.out]
    rw [← HW.out] at b0
    refine wp_region_held_drew (S:=SameTo (W1.heap.size) W1) (by kernel_rfl) (SameTo.drew _ _) (fun hSw=>?_)
    refine wt (i:=0) (oi:={ dst:=some 17,op:=Op.move (Operand.tmp 0),type:=73,pos := "check.go:159", after:=#[],guard:=none }) (v:=.pointer (some ⟨c,0,none⟩)) (fun W hW=>?_) hSw ?_
    · first|(go_simp;done)|rfl
    try simp only [Act.put,q1,q2,q3]
    refine wt (i:=1) (oi:={ dst:=some 18,op:=Op.move (Operand.tmp 0),type:=73,pos := "check.go:159", after:=#[],guard:=none }) (v:=.pointer (some ⟨c,0,none⟩)) (fun W hW=>?_) hSw ?_
    · first|(go_simp;done)|rfl
    try simp only [Act.put,q1,q2,q3]
    refine wt (i:=2) (oi:={ dst:=some 19,op:=Op.load 62 (Operand.tmp 4),type:=62,pos := "check.go:159", after:=#[],guard:=none }) (v:=.agg #[.int .u8 x.hd.k,.int .i64 x.hd.n,.string x.hd.name,.int .u8 x.hd.tk,.string x.hd.tn,.int .i64 x.hd.tz,.slice xo xl xc]) (fun W hW=>?_) hSw ?_
    · have b0:=hW.cell (by dsimp only;omega) b0
      have b1:=hW.cell (by dsimp only;omega) b1
      have b2:=hW.cell (by dsimp only;omega) b2
      have b3:=hW.cell (by dsimp only;omega) b3
      have b4:=hW.cell (by dsimp only;omega) b4
      have b5:=hW.cell (by dsimp only;omega) b5
      have b6:=hW.cell (by dsimp only;omega) b6
      first|(go_simp;done)|rfl
    try simp only [Act.put,q1,q2,q3]
    refine wt (i:=3) (oi:={ dst:=some 20,op:=Op.move (Operand.tmp 2),type:=148,pos := "check.go:159", after:=#[],guard:=none }) (v:=.pointer ao) (fun W hW=>?_) hSw ?_
    · first|(go_simp;done)|rfl
    try simp only [Act.put,q1,q2,q3]
    refine wt (i:=5) (oi:={ dst:=some 22,op:=Op.move (Operand.tmp 0),type:=73,pos := "check.go:159", after:=#[],guard:=none }) (v:=.pointer (some ⟨c,0,none⟩)) (fun W hW=>?_) hSw ?_
    · first|(go_simp;done)|rfl
    try simp only [Act.put,q1,q2,q3]
    refine wt (i:=6) (oi:={ dst:=some 23,op:=Op.nilCheck (Operand.tmp 22),type:=0,pos := "check.go:159", after:=#[gd 5],guard:=none }) (v:=.pointer (some ⟨c,0,none⟩)) (fun W hW=>?_) hSw ?_
    · first|(go_simp;done)|rfl
    try simp only [Act.put,q1,q2,q3]
    refine wt (i:=7) (oi:={ dst:=some 24,op:=Op.fieldAddr 112 (Operand.tmp 23) 6,type:=0,pos := "check.go:159", after:=#[gd 6],guard:=none }) (v:=.pointer (some ⟨c,9,none⟩)) (fun W hW=>?_) hSw ?_
    · first|(go_simp;done)|rfl
    try simp only [Act.put,q1,q2,q3]
    refine wt (i:=8) (oi:={ dst:=some 25,op:=Op.load 30 (Operand.tmp 24),type:=30,pos := "check.go:159", after:=#[gd 7],guard:=none }) (v:=.agg #[.int .u8 res.k,.string res.n,.int .i64 res.z]) (fun W hW=>?_) hSw ?_
    · have q9:=hW.cell (by dsimp only;omega) q9
      have q10:=hW.cell (by dsimp only;omega) q10
      have q11:=hW.cell (by dsimp only;omega) q11
      first|(go_simp;done)|rfl
    try simp only [Act.put,q1,q2,q3]
    refine wpAnyH_ready (rs:=[4]) (by kernel_rfl) (by simp) ?_
    refine AllReadyH.cons (o:={ dst:=some 21,op:=Op.call { callee:=Callee.value (Operand.func 98),args:=#[Operand.tmp 18,Operand.tmp 19,Operand.tmp 20],argTypes:=#[73,62,148] },type:=30,pos := "check.go:159", after:=#[gd 1,gd 2,gd 3],guard:=none }) rfl (fun K hK=>?_) AllReadyH.nil
    rw [if_pos (by rfl)]
    clear hSw
    go_simp
    refine (HVA.out).mono ?_;rintro e' w5 hq
    cases hRc:valueT e loc x with
    | error k =>
      obtain⟨rfl,hb5⟩:=hq.not hRc
      exact⟨rfl,AskE.no (by rw [HR.out,hRc];rfl) (HB.out.trans ((below_tape hb5).mono (show w.heap.size≤W1.heap.size by omega)))⟩
    | ok t =>
    obtain⟨he,hb5⟩:=hq.yes hRc
    obtain⟨ak,an,az⟩:=t
    replace he:e' = .returned (.agg #[.int .u8 ak,.string an,.int .i64 az]):=he
    subst he
    replace hb5:Below W1.heap.size W1 w5:=below_tape hb5
    have hs5:=hb5.size
    have HRC:=hid hRc
    have HB5:=hid (HB.out.trans (hb5.mono (by omega)))
    have HS5:=hid (SameTo.of hb5)
    have HFT:=hid (fit_any c e tv p res ⟨ak,an,az⟩ ⟨res.k,res.n,res.z⟩ w5 (HT.out.kept hb5))
    clear hb5 hq hRc
    refine hK.out _ _ (HS5.out) (fun hSw=>?_)
    clear hK K
    try simp only [Act.put,q1,q2,q3]
    refine wpAnyH_ready (rs:=[9]) (by kernel_rfl) (by simp) ?_
    refine AllReadyH.cons (o:={ dst:=some 26,op:=Op.call { callee:=Callee.value (Operand.func 99),args:=#[Operand.tmp 17,Operand.tmp 21,Operand.tmp 25],argTypes:=#[73,30,30] },type:=0,pos := "check.go:159", after:=#[gd 0,gd 4,gd 8,gc 4],guard:=none }) rfl (fun K hK=>?_) AllReadyH.nil
    rw [if_pos (by rfl)]
    clear hSw
    go_simp
    refine HFT.out.mono ?_;rintro e' w6 ⟨he,hb6⟩
    have hs6:=hb6.size
    have HB6:=hid (HB5.out.trans (hb6.mono (by omega)))
    have HS6:=hid (HS5.out.trans (SameTo.of (hb6.mono (by omega))))
    clear hb6
    by_cases hft:fitsT ⟨ak,an,az⟩ ⟨res.k,res.n,res.z⟩ = true
    rotate_left
    · rw [if_neg hft,askE_no (by decide)] at he
      subst he
      exact⟨rfl,AskE.no (by rw [HR.out,HRC.out];exact if_neg hft) HB6.out⟩
    rw [if_pos hft,askE_0 rfl] at he
    subst he
    have HRF:=hid (show R = .ok () by rw [HR.out,HRC.out];exact if_pos hft)
    clear hft
    refine hK.out _ _ (HS6.out) (fun hSw=>?_)
    clear hK K
    try simp only [Act.put,q1,q2,q3]
    refine wpAnyH_done (by kernel_rfl) ?_ _
    go_wp2_with fail
    go_end0
    exact AskE.ok HRF.out HB6.out
end Go.Proofs.YtdhieihcmnpneaaGreatDoor
