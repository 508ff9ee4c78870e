/- What the types layer finds of a function. -/
import Derived.Test.YtdhieihcmnpneaaGreatDoorRows
import Derived.Test.YtdhieihcmnpneaaGreatDoorTypWt
import Derived.Test.YtdhieihcmnpneaaGreatDoorTypRec
namespace Go.Proofs.YtdhieihcmnpneaaGreatDoor
set_option maxHeartbeats 1500000
set_option maxRecDepth 100000
open Go.RowKit
attribute [local go_sem ↓] Go.wp_at_zero Go.wp_at_succ
theorem parsT_cons (e:En) (loc:List Fd) (f:Fd) (r:List Fd):parsT e loc (f :: r)=if declE e loc f ≠ 0 then .error (declE e loc f) else parsT e (f :: loc) r:=rfl
def bodyT (e:En) (p:Int) (f:Fn) (R:Except Int (List Fd)):Except (Int × Int) Int:=match R with
  | .error k=>.error (p,k)
  | .ok loc=>if knownT e f.res=true then stsT e f.res loc p f.body else .error (p,9)
theorem function_any (i:Nat) (f:Fn) (B c:Nat) (e:En) (tv:Value) (p:Int) (res:Ty) (w:World) (h:Sx B c e tv p res w) (hr:e.funcs[i]? = some f) (hFB:∀ a ∈ f.body,FineS a) (hp0:-1≤p) (hp1:p+(St.counts f.body:Int)≤1000000) :
    Calls Tryz.prog 57 #[.pointer (some ⟨c,0,none⟩),.int .i64 (i:Int),.agg #[.string f.name,f.pv,.int .u8 f.res.k,.string f.res.n,.int .i64 f.res.z,f.bv]] w (LsE c e tv f.res (fnT e i p f) w):=by
  have hmem:=List.mem_of_getElem? hr
  have hnin:=h.ein.funcs _ hmem
  obtain⟨po,pc,ep,hpl,hpg⟩:=hnin.lies.form
  obtain⟨bo,bc,eb,-⟩:=hnin.blies.form
  have hnmem:f.name ∈ nnames e.funcs:=by unfold nnames;exact List.mem_map.2 ⟨_,hmem,rfl⟩
  have hqe:=idx_eq hnmem i
  obtain⟨nm,pv,ps,⟨fk,fn,fz⟩,bv,body⟩:=f
  simp only at ep eb hpl hpg hqe hFB hp1 ⊢
  have HPL:=hnin.lies
  have HBL0:=hnin.blies
  have hpok:=hnin.params
  have hbin:=hnin.body
  simp only at HPL HBL0 hpok hbin
  obtain⟨M,hM⟩:∃ M,M=ps.length:=⟨_,rfl⟩
  obtain⟨L,hLL⟩:∃ M,M=body.length:=⟨_,rfl⟩
  rw [← hM] at ep hpl hpg
  rw [← hLL] at eb
  subst ep eb
  obtain⟨W1,hW1⟩:∃ W1,W1=w.alloc (.cells #[.string nm,.slice po M pc,.int .u8 fk,.string fn,.int .i64 fz,.slice bo L bc] 33):=⟨_,rfl⟩
  have hb1:Below w.heap.size w W1:=by rw [hW1];exact below_box w _
  have hz1:W1.heap.size=w.heap.size+1:=by rw [hW1];simp
  have hO:W1.heap[w.heap.size]? = some (.cells #[.string nm,.slice po M pc,.int .u8 fk,.string fn,.int .i64 fz,.slice bo L bc] 33 (0,0)):=by rw [hW1];exact (MapKept.heap_alloc _ _).1
  obtain⟨b0,b1,b2,b3,b4,b5⟩:=own6 hO
  have hlt:=h.tk.lt
  have hB:=h.hB
  have hw:=h.hw
  have h1:=h.kept hb1
  obtain⟨K,⟨-,-,-,-,q4,-,q6,q7,q8,-,-,-⟩,-,hmr,hms,hmf,-⟩:=h1.tk.cells
  obtain⟨mr,hmr'⟩:∃ m,m=K.mr:=⟨_,rfl⟩
  obtain⟨ms,hms'⟩:∃ m,m=K.ms:=⟨_,rfl⟩
  obtain⟨mf,hmf'⟩:∃ m,m=K.mf:=⟨_,rfl⟩
  rw [← hmr'] at q4 hmr
  rw [← hms'] at q6 hms
  rw [← hmf'] at q7 hmf
  have hml:=hmf.lt
  have hlt1:w.heap.size < W1.heap.size:=by omega
  have hct1:c < W1.heap.size:=by omega
  have HMR:=Lib.hid hmr
  have HMS:=Lib.hid hms
  have HMF:=Lib.hid hmf
  have HS:=Lib.hid h
  have HS1:=Lib.hid h1
  have HLI:=Lib.hid (HPL.below (hb1.mono hw))
  have HBLI:=Lib.hid HBL0
  have HBIN:=Lib.hid hbin
  have HFBD:=Lib.hid hFB
  have HG:=Lib.hid hpg
  have HN:=Lib.hid hM
  have HP1:=Lib.hid hp1
  have HB:=Lib.hid hb1
  have HO:=Lib.hid hO
  have HW:=Lib.hid hW1
  obtain⟨R,hR⟩:∃ R,R=fnT e i p ⟨nm,.slice po M pc,ps,⟨fk,fn,fz⟩,.slice bo L bc,body⟩:=⟨_,rfl⟩
  rw [← hR]
  have hR2:R=if (idx nm (rnames e.records)).isSome ∨ (idx nm (fnames e.shared)).isSome ∨ idx nm (nnames e.funcs) ≠ some i then .error (p,8) else bodyT e p ⟨nm,.slice po M pc,ps,⟨fk,fn,fz⟩,.slice bo L bc,body⟩ (parsT e [] ps):=by rw [hR];unfold fnT bodyT;rfl
  obtain⟨FF,hFF⟩:∃ f:Fn,f=⟨nm,.slice po M pc,ps,⟨fk,fn,fz⟩,.slice bo L bc,body⟩:=⟨_,rfl⟩
  rw [← hFF] at hR2
  have HFF:=Lib.hid hFF
  clear hFF
  clear h hr hmem hnin hpg hnmem HPL HBL0 hpok hbin hM hLL hb1 h1 hO hW1 hmr hms hmf hmr' hms' hmf' hR hFB hp1
  cases hx1:(idx nm (rnames e.records)).isSome with
  | true =>
    have HR:=Lib.hid (show R = .error (p,8) by rw [hR2,if_pos (.inl hx1)])
    have HX1:=Lib.hid hx1
    clear hx1 hR2 hqe
    go_enter Tryz.func57,Tryz.ntmps57
    go_wp2_with fail
    rw [← HW.out]
    refine wp_region_held_drew (S:=SameTo (W1.heap.size) W1) (by kernel_rfl) (SameTo.drew _ _) (fun hSw=>?_)
    refine wt (i:=0) (oi:={ dst:=some 9,op:=Op.move (Operand.tmp 0),type:=73,pos := "check.go:96", after:=#[],guard:=none }) (v:=.pointer (some ⟨c,0,none⟩)) (fun W hW=>?_) hSw ?_
    · first|(go_simp;done)|rfl
    try simp only [Act.put,q1,q2,q3]
    refine wt (i:=1) (oi:={ dst:=some 10,op:=Op.move (Operand.tmp 0),type:=73,pos := "check.go:96", after:=#[],guard:=none }) (v:=.pointer (some ⟨c,0,none⟩)) (fun W hW=>?_) hSw ?_
    · first|(go_simp;done)|rfl
    try simp only [Act.put,q1,q2,q3]
    refine wt (i:=2) (oi:={ dst:=some 11,op:=Op.nilCheck (Operand.tmp 10),type:=0,pos := "check.go:96", after:=#[gd 1],guard:=none }) (v:=.pointer (some ⟨c,0,none⟩)) (fun W hW=>?_) hSw ?_
    · first|(go_simp;done)|rfl
    try simp only [Act.put,q1,q2,q3]
    refine wt (i:=3) (oi:={ dst:=some 12,op:=Op.fieldAddr 112 (Operand.tmp 11) 1,type:=0,pos := "check.go:96", after:=#[gd 2],guard:=none }) (v:=.pointer (some ⟨c,4,none⟩)) (fun W hW=>?_) hSw ?_
    · first|(go_simp;done)|rfl
    try simp only [Act.put,q1,q2,q3]
    refine wt (i:=4) (oi:={ dst:=some 13,op:=Op.load 104 (Operand.tmp 12),type:=104,pos := "check.go:96", after:=#[gd 3],guard:=none }) (v:=.map (some mr)) (fun W hW=>?_) hSw ?_
    · have q4:=hW.cell (by dsimp only;omega) q4
      first|(go_simp;done)|rfl
    try simp only [Act.put,q1,q2,q3]
    refine wt (i:=5) (oi:={ dst:=some 14,op:=Op.fieldAddr 33 (Operand.tmp 5) 0,type:=0,pos := "check.go:96", after:=#[],guard:=none }) (v:=.pointer (some ⟨w.heap.size,0,none⟩)) (fun W hW=>?_) hSw ?_
    · first|(go_simp;done)|rfl
    try simp only [Act.put,q1,q2,q3]
    refine wt (i:=6) (oi:={ dst:=some 15,op:=Op.load 9 (Operand.tmp 14),type:=9,pos := "check.go:96", after:=#[gd 5],guard:=none }) (v:=.string nm) (fun W hW=>?_) hSw ?_
    · have b0:=hW.cell (by dsimp only;omega) b0
      first|(go_simp;done)|rfl
    try simp only [Act.put,q1,q2,q3]
    refine wpAnyH_ready (rs:=[7]) (by kernel_rfl) (by simp) ?_
    refine AllReadyH.cons (o:={ dst:=some 16,op:=Op.call { callee:=Callee.value (Operand.func 55),args:=#[Operand.tmp 13,Operand.tmp 15],argTypes:=#[104,9] },type:=4,pos := "check.go:96", after:=#[gd 4,gd 6],guard:=none }) rfl (fun K hK=>?_) AllReadyH.nil
    rw [if_pos (by rfl)]
    clear hSw
    go_simp
    refine (has_any _ mr nm W1.drew (HMR.out)).mono ?_;rintro e' w' ⟨rfl,rfl⟩
    rw [HX1.out]
    refine hK.out _ _ (SameTo.drew _ _) (fun hSw=>?_)
    clear hK K
    try simp only [Act.put,q1,q2,q3]
    refine wt (i:=8) (oi:={ dst:=some 17,op:=Op.unOp UnOp.not 4 (Operand.tmp 16),type:=4,pos := "check.go:96", after:=#[gd 7],guard:=none }) (v:=.bool false) (fun W hW=>?_) hSw ?_
    · first|(go_simp;done)|rfl
    try simp only [Act.put,q1,q2,q3]
    refine wt (i:=9) (oi:={ dst:=some 18,op:=Op.move (Operand.tmp 17),type:=4,pos := "check.go:96", after:=#[gd 8,gc 7],guard:=none }) (v:=.bool false) (fun W hW=>?_) hSw ?_
    · first|(go_simp;done)|rfl
    try simp only [Act.put,q1,q2,q3]
    refine wpAnyH_take (i:=10) (oi:={ dst:=some 19,op:=Op.move (Operand.tmp 0),type:=73,pos := "check.go:96", after:=#[{ on:=9,ground:=Ground.guard }],guard:=some (9,true) }) (v:=undef) rfl (by kernel_rfl) (by kernel_rfl) (by kernel_rfl) (fun _ _ _ h=>h) (Or.inr ⟨by rfl,rfl⟩) hSw ?_
    try simp only [Act.put,q1,q2,q3]
    refine wpAnyH_take (i:=11) (oi:={ dst:=some 20,op:=Op.nilCheck (Operand.tmp 19),type:=0,pos := "check.go:96", after:=#[gd 10,{ on:=9,ground:=Ground.guard }],guard:=some (9,true) }) (v:=undef) rfl (by kernel_rfl) (by kernel_rfl) (by kernel_rfl) (fun _ _ _ h=>h) (Or.inr ⟨by rfl,rfl⟩) hSw ?_
    try simp only [Act.put,q1,q2,q3]
    refine wpAnyH_take (i:=12) (oi:={ dst:=some 21,op:=Op.fieldAddr 112 (Operand.tmp 20) 3,type:=0,pos := "check.go:96", after:=#[gd 11,{ on:=9,ground:=Ground.guard }],guard:=some (9,true) }) (v:=undef) rfl (by kernel_rfl) (by kernel_rfl) (by kernel_rfl) (fun _ _ _ h=>h) (Or.inr ⟨by rfl,rfl⟩) hSw ?_
    try simp only [Act.put,q1,q2,q3]
    refine wpAnyH_take (i:=13) (oi:={ dst:=some 22,op:=Op.load 104 (Operand.tmp 21),type:=104,pos := "check.go:96", after:=#[gd 12,{ on:=9,ground:=Ground.guard }],guard:=some (9,true) }) (v:=undef) rfl (by kernel_rfl) (by kernel_rfl) (by kernel_rfl) (fun _ _ _ h=>h) (Or.inr ⟨by rfl,rfl⟩) hSw ?_
    try simp only [Act.put,q1,q2,q3]
    refine wpAnyH_take (i:=14) (oi:={ dst:=some 23,op:=Op.fieldAddr 33 (Operand.tmp 5) 0,type:=0,pos := "check.go:96", after:=#[{ on:=9,ground:=Ground.guard }],guard:=some (9,true) }) (v:=undef) rfl (by kernel_rfl) (by kernel_rfl) (by kernel_rfl) (fun _ _ _ h=>h) (Or.inr ⟨by rfl,rfl⟩) hSw ?_
    try simp only [Act.put,q1,q2,q3]
    refine wpAnyH_take (i:=15) (oi:={ dst:=some 24,op:=Op.load 9 (Operand.tmp 23),type:=9,pos := "check.go:96", after:=#[gd 14,{ on:=9,ground:=Ground.guard }],guard:=some (9,true) }) (v:=undef) rfl (by kernel_rfl) (by kernel_rfl) (by kernel_rfl) (fun _ _ _ h=>h) (Or.inr ⟨by rfl,rfl⟩) hSw ?_
    try simp only [Act.put,q1,q2,q3]
    refine wpAnyH_take (i:=16) (oi:={ dst:=some 25,op:=Op.call { callee:=Callee.value (Operand.func 55),args:=#[Operand.tmp 22,Operand.tmp 24],argTypes:=#[104,9] },type:=4,pos := "check.go:96", after:=#[gd 13,gd 15,gc 9,{ on:=9,ground:=Ground.guard }],guard:=some (9,true) }) (v:=undef) rfl (by kernel_rfl) (by kernel_rfl) (by kernel_rfl) (fun _ _ _ h=>h) (Or.inr ⟨by rfl,rfl⟩) hSw ?_
    try simp only [Act.put,q1,q2,q3]
    refine wpAnyH_take (i:=17) (oi:={ dst:=some 26,op:=Op.unOp UnOp.not 4 (Operand.tmp 25),type:=4,pos := "check.go:96", after:=#[gd 16,{ on:=9,ground:=Ground.guard }],guard:=some (9,true) }) (v:=undef) rfl (by kernel_rfl) (by kernel_rfl) (by kernel_rfl) (fun _ _ _ h=>h) (Or.inr ⟨by rfl,rfl⟩) hSw ?_
    try simp only [Act.put,q1,q2,q3]
    refine wt (i:=18) (oi:={ dst:=some 27,op:=Op.pick (Operand.tmp 18) (Operand.tmp 26) (Operand.const (Value.bool false)),type:=4,pos := "check.go:96", after:=#[gd 9,gd 17],guard:=none }) (v:=.bool false) (fun W hW=>?_) hSw ?_
    · first|(go_simp;done)|rfl
    try simp only [Act.put,q1,q2,q3]
    refine wt (i:=19) (oi:={ dst:=some 28,op:=Op.move (Operand.tmp 27),type:=4,pos := "check.go:96", after:=#[gd 18,gc 16],guard:=none }) (v:=.bool false) (fun W hW=>?_) hSw ?_
    · first|(go_simp;done)|rfl
    try simp only [Act.put,q1,q2,q3]
    refine wpAnyH_take (i:=20) (oi:={ dst:=some 29,op:=Op.move (Operand.tmp 0),type:=73,pos := "check.go:96", after:=#[{ on:=19,ground:=Ground.guard }],guard:=some (19,true) }) (v:=undef) rfl (by kernel_rfl) (by kernel_rfl) (by kernel_rfl) (fun _ _ _ h=>h) (Or.inr ⟨by rfl,rfl⟩) hSw ?_
    try simp only [Act.put,q1,q2,q3]
    refine wpAnyH_take (i:=21) (oi:={ dst:=some 30,op:=Op.nilCheck (Operand.tmp 29),type:=0,pos := "check.go:96", after:=#[gd 20,{ on:=19,ground:=Ground.guard }],guard:=some (19,true) }) (v:=undef) rfl (by kernel_rfl) (by kernel_rfl) (by kernel_rfl) (fun _ _ _ h=>h) (Or.inr ⟨by rfl,rfl⟩) hSw ?_
    try simp only [Act.put,q1,q2,q3]
    refine wpAnyH_take (i:=22) (oi:={ dst:=some 31,op:=Op.fieldAddr 112 (Operand.tmp 30) 4,type:=0,pos := "check.go:96", after:=#[gd 21,{ on:=19,ground:=Ground.guard }],guard:=some (19,true) }) (v:=undef) rfl (by kernel_rfl) (by kernel_rfl) (by kernel_rfl) (fun _ _ _ h=>h) (Or.inr ⟨by rfl,rfl⟩) hSw ?_
    try simp only [Act.put,q1,q2,q3]
    refine wpAnyH_take (i:=23) (oi:={ dst:=some 32,op:=Op.load 104 (Operand.tmp 31),type:=104,pos := "check.go:96", after:=#[gd 22,{ on:=19,ground:=Ground.guard }],guard:=some (19,true) }) (v:=undef) rfl (by kernel_rfl) (by kernel_rfl) (by kernel_rfl) (fun _ _ _ h=>h) (Or.inr ⟨by rfl,rfl⟩) hSw ?_
    try simp only [Act.put,q1,q2,q3]
    refine wpAnyH_take (i:=24) (oi:={ dst:=some 33,op:=Op.fieldAddr 33 (Operand.tmp 5) 0,type:=0,pos := "check.go:96", after:=#[{ on:=19,ground:=Ground.guard }],guard:=some (19,true) }) (v:=undef) rfl (by kernel_rfl) (by kernel_rfl) (by kernel_rfl) (fun _ _ _ h=>h) (Or.inr ⟨by rfl,rfl⟩) hSw ?_
    try simp only [Act.put,q1,q2,q3]
    refine wpAnyH_take (i:=25) (oi:={ dst:=some 34,op:=Op.load 9 (Operand.tmp 33),type:=9,pos := "check.go:96", after:=#[gd 24,{ on:=19,ground:=Ground.guard }],guard:=some (19,true) }) (v:=undef) rfl (by kernel_rfl) (by kernel_rfl) (by kernel_rfl) (fun _ _ _ h=>h) (Or.inr ⟨by rfl,rfl⟩) hSw ?_
    try simp only [Act.put,q1,q2,q3]
    refine wpAnyH_take (i:=26) (oi:={ dst:=some 35,op:=Op.lookup 104 (Operand.tmp 32) (Operand.tmp 34) false,type:=3,pos := "check.go:96", after:=#[gd 23,gd 25,{ on:=19,ground:=Ground.guard }],guard:=some (19,true) }) (v:=undef) rfl (by kernel_rfl) (by kernel_rfl) (by kernel_rfl) (fun _ _ _ h=>h) (Or.inr ⟨by rfl,rfl⟩) hSw ?_
    try simp only [Act.put,q1,q2,q3]
    refine wpAnyH_take (i:=27) (oi:={ dst:=some 36,op:=Op.move (Operand.tmp 1),type:=3,pos := "check.go:96", after:=#[{ on:=19,ground:=Ground.guard }],guard:=some (19,true) }) (v:=undef) rfl (by kernel_rfl) (by kernel_rfl) (by kernel_rfl) (fun _ _ _ h=>h) (Or.inr ⟨by rfl,rfl⟩) hSw ?_
    try simp only [Act.put,q1,q2,q3]
    refine wpAnyH_take (i:=28) (oi:={ dst:=some 37,op:=Op.binOp BinOp.eql 3 (Operand.tmp 35) (Operand.tmp 36) 3,type:=4,pos := "check.go:96", after:=#[gd 26,gd 27,{ on:=19,ground:=Ground.guard }],guard:=some (19,true) }) (v:=undef) rfl (by kernel_rfl) (by kernel_rfl) (by kernel_rfl) (fun _ _ _ h=>h) (Or.inr ⟨by rfl,rfl⟩) hSw ?_
    try simp only [Act.put,q1,q2,q3]
    refine wt (i:=29) (oi:={ dst:=some 38,op:=Op.pick (Operand.tmp 28) (Operand.tmp 37) (Operand.const (Value.bool false)),type:=4,pos := "check.go:96", after:=#[gd 19,gd 28],guard:=none }) (v:=.bool false) (fun W hW=>?_) hSw ?_
    · first|(go_simp;done)|rfl
    try simp only [Act.put,q1,q2,q3]
    refine wpAnyH_ready (rs:=[30]) (by kernel_rfl) (by simp) ?_
    refine AllReadyH.cons (o:={ dst:=some 39,op:=Op.call { callee:=Callee.value (Operand.func 54),args:=#[Operand.tmp 9,Operand.tmp 38,Operand.const (Value.int IntKind.i64 8)],argTypes:=#[73,4,37] },type:=0,pos := "check.go:96", after:=#[gd 0,gd 29,gc 19],guard:=none }) rfl (fun K hK=>?_) AllReadyH.nil
    rw [if_pos (by rfl)]
    clear hSw
    go_simp
    refine (tmust_no c p 8 W1.drew q8).mono ?_;rintro e' w' ⟨rfl,rfl⟩
    exact⟨rfl,LsE.no (q:=(p,8)) HR.out (Only.of HB.out.drew)⟩
  | false =>
  have HX1:=Lib.hid hx1
  cases hx2:(idx nm (fnames e.shared)).isSome with
  | true =>
    have HR:=Lib.hid (show R = .error (p,8) by rw [hR2,if_pos (.inr (.inl hx2))])
    have HX2:=Lib.hid hx2
    clear hx1 hx2 hR2 hqe
    go_enter Tryz.func57,Tryz.ntmps57
    go_wp2_with fail
    rw [← HW.out]
    refine wp_region_held_drew (S:=SameTo (W1.heap.size) W1) (by kernel_rfl) (SameTo.drew _ _) (fun hSw=>?_)
    refine wt (i:=0) (oi:={ dst:=some 9,op:=Op.move (Operand.tmp 0),type:=73,pos := "check.go:96", after:=#[],guard:=none }) (v:=.pointer (some ⟨c,0,none⟩)) (fun W hW=>?_) hSw ?_
    · first|(go_simp;done)|rfl
    try simp only [Act.put,q1,q2,q3]
    refine wt (i:=1) (oi:={ dst:=some 10,op:=Op.move (Operand.tmp 0),type:=73,pos := "check.go:96", after:=#[],guard:=none }) (v:=.pointer (some ⟨c,0,none⟩)) (fun W hW=>?_) hSw ?_
    · first|(go_simp;done)|rfl
    try simp only [Act.put,q1,q2,q3]
    refine wt (i:=2) (oi:={ dst:=some 11,op:=Op.nilCheck (Operand.tmp 10),type:=0,pos := "check.go:96", after:=#[gd 1],guard:=none }) (v:=.pointer (some ⟨c,0,none⟩)) (fun W hW=>?_) hSw ?_
    · first|(go_simp;done)|rfl
    try simp only [Act.put,q1,q2,q3]
    refine wt (i:=3) (oi:={ dst:=some 12,op:=Op.fieldAddr 112 (Operand.tmp 11) 1,type:=0,pos := "check.go:96", after:=#[gd 2],guard:=none }) (v:=.pointer (some ⟨c,4,none⟩)) (fun W hW=>?_) hSw ?_
    · first|(go_simp;done)|rfl
    try simp only [Act.put,q1,q2,q3]
    refine wt (i:=4) (oi:={ dst:=some 13,op:=Op.load 104 (Operand.tmp 12),type:=104,pos := "check.go:96", after:=#[gd 3],guard:=none }) (v:=.map (some mr)) (fun W hW=>?_) hSw ?_
    · have q4:=hW.cell (by dsimp only;omega) q4
      first|(go_simp;done)|rfl
    try simp only [Act.put,q1,q2,q3]
    refine wt (i:=5) (oi:={ dst:=some 14,op:=Op.fieldAddr 33 (Operand.tmp 5) 0,type:=0,pos := "check.go:96", after:=#[],guard:=none }) (v:=.pointer (some ⟨w.heap.size,0,none⟩)) (fun W hW=>?_) hSw ?_
    · first|(go_simp;done)|rfl
    try simp only [Act.put,q1,q2,q3]
    refine wt (i:=6) (oi:={ dst:=some 15,op:=Op.load 9 (Operand.tmp 14),type:=9,pos := "check.go:96", after:=#[gd 5],guard:=none }) (v:=.string nm) (fun W hW=>?_) hSw ?_
    · have b0:=hW.cell (by dsimp only;omega) b0
      first|(go_simp;done)|rfl
    try simp only [Act.put,q1,q2,q3]
    refine wpAnyH_ready (rs:=[7]) (by kernel_rfl) (by simp) ?_
    refine AllReadyH.cons (o:={ dst:=some 16,op:=Op.call { callee:=Callee.value (Operand.func 55),args:=#[Operand.tmp 13,Operand.tmp 15],argTypes:=#[104,9] },type:=4,pos := "check.go:96", after:=#[gd 4,gd 6],guard:=none }) rfl (fun K hK=>?_) AllReadyH.nil
    rw [if_pos (by rfl)]
    clear hSw
    go_simp
    refine (has_any _ mr nm W1.drew (HMR.out)).mono ?_;rintro e' w' ⟨rfl,rfl⟩
    rw [HX1.out]
    refine hK.out _ _ (SameTo.drew _ _) (fun hSw=>?_)
    clear hK K
    try simp only [Act.put,q1,q2,q3]
    refine wt (i:=8) (oi:={ dst:=some 17,op:=Op.unOp UnOp.not 4 (Operand.tmp 16),type:=4,pos := "check.go:96", after:=#[gd 7],guard:=none }) (v:=.bool true) (fun W hW=>?_) hSw ?_
    · first|(go_simp;done)|rfl
    try simp only [Act.put,q1,q2,q3]
    refine wt (i:=9) (oi:={ dst:=some 18,op:=Op.move (Operand.tmp 17),type:=4,pos := "check.go:96", after:=#[gd 8,gc 7],guard:=none }) (v:=.bool true) (fun W hW=>?_) hSw ?_
    · first|(go_simp;done)|rfl
    try simp only [Act.put,q1,q2,q3]
    refine wt (i:=10) (oi:={ dst:=some 19,op:=Op.move (Operand.tmp 0),type:=73,pos := "check.go:96", after:=#[{ on:=9,ground:=Ground.guard }],guard:=some (9,true) }) (v:=.pointer (some ⟨c,0,none⟩)) (fun W hW=>?_) hSw ?_
    · first|(go_simp;done)|rfl
    try simp only [Act.put,q1,q2,q3]
    refine wt (i:=11) (oi:={ dst:=some 20,op:=Op.nilCheck (Operand.tmp 19),type:=0,pos := "check.go:96", after:=#[gd 10,{ on:=9,ground:=Ground.guard }],guard:=some (9,true) }) (v:=.pointer (some ⟨c,0,none⟩)) (fun W hW=>?_) hSw ?_
    · first|(go_simp;done)|rfl
    try simp only [Act.put,q1,q2,q3]
    refine wt (i:=12) (oi:={ dst:=some 21,op:=Op.fieldAddr 112 (Operand.tmp 20) 3,type:=0,pos := "check.go:96", after:=#[gd 11,{ on:=9,ground:=Ground.guard }],guard:=some (9,true) }) (v:=.pointer (some ⟨c,6,none⟩)) (fun W hW=>?_) hSw ?_
    · first|(go_simp;done)|rfl
    try simp only [Act.put,q1,q2,q3]
    refine wt (i:=13) (oi:={ dst:=some 22,op:=Op.load 104 (Operand.tmp 21),type:=104,pos := "check.go:96", after:=#[gd 12,{ on:=9,ground:=Ground.guard }],guard:=some (9,true) }) (v:=.map (some ms)) (fun W hW=>?_) hSw ?_
    · have q6:=hW.cell (by dsimp only;omega) q6
      first|(go_simp;done)|rfl
    try simp only [Act.put,q1,q2,q3]
    refine wt (i:=14) (oi:={ dst:=some 23,op:=Op.fieldAddr 33 (Operand.tmp 5) 0,type:=0,pos := "check.go:96", after:=#[{ on:=9,ground:=Ground.guard }],guard:=some (9,true) }) (v:=.pointer (some ⟨w.heap.size,0,none⟩)) (fun W hW=>?_) hSw ?_
    · first|(go_simp;done)|rfl
    try simp only [Act.put,q1,q2,q3]
    refine wt (i:=15) (oi:={ dst:=some 24,op:=Op.load 9 (Operand.tmp 23),type:=9,pos := "check.go:96", after:=#[gd 14,{ on:=9,ground:=Ground.guard }],guard:=some (9,true) }) (v:=.string nm) (fun W hW=>?_) hSw ?_
    · have b0:=hW.cell (by dsimp only;omega) b0
      first|(go_simp;done)|rfl
    try simp only [Act.put,q1,q2,q3]
    refine wpAnyH_ready (rs:=[16]) (by kernel_rfl) (by simp) ?_
    refine AllReadyH.cons (o:={ dst:=some 25,op:=Op.call { callee:=Callee.value (Operand.func 55),args:=#[Operand.tmp 22,Operand.tmp 24],argTypes:=#[104,9] },type:=4,pos := "check.go:96", after:=#[gd 13,gd 15,gc 9,{ on:=9,ground:=Ground.guard }],guard:=some (9,true) }) rfl (fun K hK=>?_) AllReadyH.nil
    rw [if_pos (by rfl)]
    clear hSw
    go_simp
    refine (has_any _ ms nm W1.drew (HMS.out)).mono ?_;rintro e' w' ⟨rfl,rfl⟩
    rw [HX2.out]
    refine hK.out _ _ (SameTo.drew _ _) (fun hSw=>?_)
    clear hK K
    try simp only [Act.put,q1,q2,q3]
    refine wt (i:=17) (oi:={ dst:=some 26,op:=Op.unOp UnOp.not 4 (Operand.tmp 25),type:=4,pos := "check.go:96", after:=#[gd 16,{ on:=9,ground:=Ground.guard }],guard:=some (9,true) }) (v:=.bool false) (fun W hW=>?_) hSw ?_
    · first|(go_simp;done)|rfl
    try simp only [Act.put,q1,q2,q3]
    refine wt (i:=18) (oi:={ dst:=some 27,op:=Op.pick (Operand.tmp 18) (Operand.tmp 26) (Operand.const (Value.bool false)),type:=4,pos := "check.go:96", after:=#[gd 9,gd 17],guard:=none }) (v:=.bool false) (fun W hW=>?_) hSw ?_
    · first|(go_simp;done)|rfl
    try simp only [Act.put,q1,q2,q3]
    refine wt (i:=19) (oi:={ dst:=some 28,op:=Op.move (Operand.tmp 27),type:=4,pos := "check.go:96", after:=#[gd 18,gc 16],guard:=none }) (v:=.bool false) (fun W hW=>?_) hSw ?_
    · first|(go_simp;done)|rfl
    try simp only [Act.put,q1,q2,q3]
    refine wpAnyH_take (i:=20) (oi:={ dst:=some 29,op:=Op.move (Operand.tmp 0),type:=73,pos := "check.go:96", after:=#[{ on:=19,ground:=Ground.guard }],guard:=some (19,true) }) (v:=undef) rfl (by kernel_rfl) (by kernel_rfl) (by kernel_rfl) (fun _ _ _ h=>h) (Or.inr ⟨by rfl,rfl⟩) hSw ?_
    try simp only [Act.put,q1,q2,q3]
    refine wpAnyH_take (i:=21) (oi:={ dst:=some 30,op:=Op.nilCheck (Operand.tmp 29),type:=0,pos := "check.go:96", after:=#[gd 20,{ on:=19,ground:=Ground.guard }],guard:=some (19,true) }) (v:=undef) rfl (by kernel_rfl) (by kernel_rfl) (by kernel_rfl) (fun _ _ _ h=>h) (Or.inr ⟨by rfl,rfl⟩) hSw ?_
    try simp only [Act.put,q1,q2,q3]
    refine wpAnyH_take (i:=22) (oi:={ dst:=some 31,op:=Op.fieldAddr 112 (Operand.tmp 30) 4,type:=0,pos := "check.go:96", after:=#[gd 21,{ on:=19,ground:=Ground.guard }],guard:=some (19,true) }) (v:=undef) rfl (by kernel_rfl) (by kernel_rfl) (by kernel_rfl) (fun _ _ _ h=>h) (Or.inr ⟨by rfl,rfl⟩) hSw ?_
    try simp only [Act.put,q1,q2,q3]
    refine wpAnyH_take (i:=23) (oi:={ dst:=some 32,op:=Op.load 104 (Operand.tmp 31),type:=104,pos := "check.go:96", after:=#[gd 22,{ on:=19,ground:=Ground.guard }],guard:=some (19,true) }) (v:=undef) rfl (by kernel_rfl) (by kernel_rfl) (by kernel_rfl) (fun _ _ _ h=>h) (Or.inr ⟨by rfl,rfl⟩) hSw ?_
    try simp only [Act.put,q1,q2,q3]
    refine wpAnyH_take (i:=24) (oi:={ dst:=some 33,op:=Op.fieldAddr 33 (Operand.tmp 5) 0,type:=0,pos := "check.go:96", after:=#[{ on:=19,ground:=Ground.guard }],guard:=some (19,true) }) (v:=undef) rfl (by kernel_rfl) (by kernel_rfl) (by kernel_rfl) (fun _ _ _ h=>h) (Or.inr ⟨by rfl,rfl⟩) hSw ?_
    try simp only [Act.put,q1,q2,q3]
    refine wpAnyH_take (i:=25) (oi:={ dst:=some 34,op:=Op.load 9 (Operand.tmp 33),type:=9,pos := "check.go:96", after:=#[gd 24,{ on:=19,ground:=Ground.guard }],guard:=some (19,true) }) (v:=undef) rfl (by kernel_rfl) (by kernel_rfl) (by kernel_rfl) (fun _ _ _ h=>h) (Or.inr ⟨by rfl,rfl⟩) hSw ?_
    try simp only [Act.put,q1,q2,q3]
    refine wpAnyH_take (i:=26) (oi:={ dst:=some 35,op:=Op.lookup 104 (Operand.tmp 32) (Operand.tmp 34) false,type:=3,pos := "check.go:96", after:=#[gd 23,gd 25,{ on:=19,ground:=Ground.guard }],guard:=some (19,true) }) (v:=undef) rfl (by kernel_rfl) (by kernel_rfl) (by kernel_rfl) (fun _ _ _ h=>h) (Or.inr ⟨by rfl,rfl⟩) hSw ?_
    try simp only [Act.put,q1,q2,q3]
    refine wpAnyH_take (i:=27) (oi:={ dst:=some 36,op:=Op.move (Operand.tmp 1),type:=3,pos := "check.go:96", after:=#[{ on:=19,ground:=Ground.guard }],guard:=some (19,true) }) (v:=undef) rfl (by kernel_rfl) (by kernel_rfl) (by kernel_rfl) (fun _ _ _ h=>h) (Or.inr ⟨by rfl,rfl⟩) hSw ?_
    try simp only [Act.put,q1,q2,q3]
    refine wpAnyH_take (i:=28) (oi:={ dst:=some 37,op:=Op.binOp BinOp.eql 3 (Operand.tmp 35) (Operand.tmp 36) 3,type:=4,pos := "check.go:96", after:=#[gd 26,gd 27,{ on:=19,ground:=Ground.guard }],guard:=some (19,true) }) (v:=undef) rfl (by kernel_rfl) (by kernel_rfl) (by kernel_rfl) (fun _ _ _ h=>h) (Or.inr ⟨by rfl,rfl⟩) hSw ?_
    try simp only [Act.put,q1,q2,q3]
    refine wt (i:=29) (oi:={ dst:=some 38,op:=Op.pick (Operand.tmp 28) (Operand.tmp 37) (Operand.const (Value.bool false)),type:=4,pos := "check.go:96", after:=#[gd 19,gd 28],guard:=none }) (v:=.bool false) (fun W hW=>?_) hSw ?_
    · first|(go_simp;done)|rfl
    try simp only [Act.put,q1,q2,q3]
    refine wpAnyH_ready (rs:=[30]) (by kernel_rfl) (by simp) ?_
    refine AllReadyH.cons (o:={ dst:=some 39,op:=Op.call { callee:=Callee.value (Operand.func 54),args:=#[Operand.tmp 9,Operand.tmp 38,Operand.const (Value.int IntKind.i64 8)],argTypes:=#[73,4,37] },type:=0,pos := "check.go:96", after:=#[gd 0,gd 29,gc 19],guard:=none }) rfl (fun K hK=>?_) AllReadyH.nil
    rw [if_pos (by rfl)]
    clear hSw
    go_simp
    refine (tmust_no c p 8 W1.drew q8).mono ?_;rintro e' w' ⟨rfl,rfl⟩
    exact⟨rfl,LsE.no (q:=(p,8)) HR.out (Only.of HB.out.drew)⟩
  | false =>
  have HX2:=Lib.hid hx2
  by_cases hid:idx nm (nnames e.funcs)=some i
  rotate_left
  · have HR:=Lib.hid (show R = .error (p,8) by rw [hR2,if_pos (.inr (.inr hid))])
    rw [decide_eq_false hid] at hqe
    clear hx1 hx2 hR2 hid
    go_enter Tryz.func57,Tryz.ntmps57
    go_wp2_with fail
    rw [← HW.out]
    refine wp_region_held_drew (S:=SameTo (W1.heap.size) W1) (by kernel_rfl) (SameTo.drew _ _) (fun hSw=>?_)
    refine wt (i:=0) (oi:={ dst:=some 9,op:=Op.move (Operand.tmp 0),type:=73,pos := "check.go:96", after:=#[],guard:=none }) (v:=.pointer (some ⟨c,0,none⟩)) (fun W hW=>?_) hSw ?_
    · first|(go_simp;done)|rfl
    try simp only [Act.put,q1,q2,q3]
    refine wt (i:=1) (oi:={ dst:=some 10,op:=Op.move (Operand.tmp 0),type:=73,pos := "check.go:96", after:=#[],guard:=none }) (v:=.pointer (some ⟨c,0,none⟩)) (fun W hW=>?_) hSw ?_
    · first|(go_simp;done)|rfl
    try simp only [Act.put,q1,q2,q3]
    refine wt (i:=2) (oi:={ dst:=some 11,op:=Op.nilCheck (Operand.tmp 10),type:=0,pos := "check.go:96", after:=#[gd 1],guard:=none }) (v:=.pointer (some ⟨c,0,none⟩)) (fun W hW=>?_) hSw ?_
    · first|(go_simp;done)|rfl
    try simp only [Act.put,q1,q2,q3]
    refine wt (i:=3) (oi:={ dst:=some 12,op:=Op.fieldAddr 112 (Operand.tmp 11) 1,type:=0,pos := "check.go:96", after:=#[gd 2],guard:=none }) (v:=.pointer (some ⟨c,4,none⟩)) (fun W hW=>?_) hSw ?_
    · first|(go_simp;done)|rfl
    try simp only [Act.put,q1,q2,q3]
    refine wt (i:=4) (oi:={ dst:=some 13,op:=Op.load 104 (Operand.tmp 12),type:=104,pos := "check.go:96", after:=#[gd 3],guard:=none }) (v:=.map (some mr)) (fun W hW=>?_) hSw ?_
    · have q4:=hW.cell (by dsimp only;omega) q4
      first|(go_simp;done)|rfl
    try simp only [Act.put,q1,q2,q3]
    refine wt (i:=5) (oi:={ dst:=some 14,op:=Op.fieldAddr 33 (Operand.tmp 5) 0,type:=0,pos := "check.go:96", after:=#[],guard:=none }) (v:=.pointer (some ⟨w.heap.size,0,none⟩)) (fun W hW=>?_) hSw ?_
    · first|(go_simp;done)|rfl
    try simp only [Act.put,q1,q2,q3]
    refine wt (i:=6) (oi:={ dst:=some 15,op:=Op.load 9 (Operand.tmp 14),type:=9,pos := "check.go:96", after:=#[gd 5],guard:=none }) (v:=.string nm) (fun W hW=>?_) hSw ?_
    · have b0:=hW.cell (by dsimp only;omega) b0
      first|(go_simp;done)|rfl
    try simp only [Act.put,q1,q2,q3]
    refine wpAnyH_ready (rs:=[7]) (by kernel_rfl) (by simp) ?_
    refine AllReadyH.cons (o:={ dst:=some 16,op:=Op.call { callee:=Callee.value (Operand.func 55),args:=#[Operand.tmp 13,Operand.tmp 15],argTypes:=#[104,9] },type:=4,pos := "check.go:96", after:=#[gd 4,gd 6],guard:=none }) rfl (fun K hK=>?_) AllReadyH.nil
    rw [if_pos (by rfl)]
    clear hSw
    go_simp
    refine (has_any _ mr nm W1.drew (HMR.out)).mono ?_;rintro e' w' ⟨rfl,rfl⟩
    rw [HX1.out]
    refine hK.out _ _ (SameTo.drew _ _) (fun hSw=>?_)
    clear hK K
    try simp only [Act.put,q1,q2,q3]
    refine wt (i:=8) (oi:={ dst:=some 17,op:=Op.unOp UnOp.not 4 (Operand.tmp 16),type:=4,pos := "check.go:96", after:=#[gd 7],guard:=none }) (v:=.bool true) (fun W hW=>?_) hSw ?_
    · first|(go_simp;done)|rfl
    try simp only [Act.put,q1,q2,q3]
    refine wt (i:=9) (oi:={ dst:=some 18,op:=Op.move (Operand.tmp 17),type:=4,pos := "check.go:96", after:=#[gd 8,gc 7],guard:=none }) (v:=.bool true) (fun W hW=>?_) hSw ?_
    · first|(go_simp;done)|rfl
    try simp only [Act.put,q1,q2,q3]
    refine wt (i:=10) (oi:={ dst:=some 19,op:=Op.move (Operand.tmp 0),type:=73,pos := "check.go:96", after:=#[{ on:=9,ground:=Ground.guard }],guard:=some (9,true) }) (v:=.pointer (some ⟨c,0,none⟩)) (fun W hW=>?_) hSw ?_
    · first|(go_simp;done)|rfl
    try simp only [Act.put,q1,q2,q3]
    refine wt (i:=11) (oi:={ dst:=some 20,op:=Op.nilCheck (Operand.tmp 19),type:=0,pos := "check.go:96", after:=#[gd 10,{ on:=9,ground:=Ground.guard }],guard:=some (9,true) }) (v:=.pointer (some ⟨c,0,none⟩)) (fun W hW=>?_) hSw ?_
    · first|(go_simp;done)|rfl
    try simp only [Act.put,q1,q2,q3]
    refine wt (i:=12) (oi:={ dst:=some 21,op:=Op.fieldAddr 112 (Operand.tmp 20) 3,type:=0,pos := "check.go:96", after:=#[gd 11,{ on:=9,ground:=Ground.guard }],guard:=some (9,true) }) (v:=.pointer (some ⟨c,6,none⟩)) (fun W hW=>?_) hSw ?_
    · first|(go_simp;done)|rfl
    try simp only [Act.put,q1,q2,q3]
    refine wt (i:=13) (oi:={ dst:=some 22,op:=Op.load 104 (Operand.tmp 21),type:=104,pos := "check.go:96", after:=#[gd 12,{ on:=9,ground:=Ground.guard }],guard:=some (9,true) }) (v:=.map (some ms)) (fun W hW=>?_) hSw ?_
    · have q6:=hW.cell (by dsimp only;omega) q6
      first|(go_simp;done)|rfl
    try simp only [Act.put,q1,q2,q3]
    refine wt (i:=14) (oi:={ dst:=some 23,op:=Op.fieldAddr 33 (Operand.tmp 5) 0,type:=0,pos := "check.go:96", after:=#[{ on:=9,ground:=Ground.guard }],guard:=some (9,true) }) (v:=.pointer (some ⟨w.heap.size,0,none⟩)) (fun W hW=>?_) hSw ?_
    · first|(go_simp;done)|rfl
    try simp only [Act.put,q1,q2,q3]
    refine wt (i:=15) (oi:={ dst:=some 24,op:=Op.load 9 (Operand.tmp 23),type:=9,pos := "check.go:96", after:=#[gd 14,{ on:=9,ground:=Ground.guard }],guard:=some (9,true) }) (v:=.string nm) (fun W hW=>?_) hSw ?_
    · have b0:=hW.cell (by dsimp only;omega) b0
      first|(go_simp;done)|rfl
    try simp only [Act.put,q1,q2,q3]
    refine wpAnyH_ready (rs:=[16]) (by kernel_rfl) (by simp) ?_
    refine AllReadyH.cons (o:={ dst:=some 25,op:=Op.call { callee:=Callee.value (Operand.func 55),args:=#[Operand.tmp 22,Operand.tmp 24],argTypes:=#[104,9] },type:=4,pos := "check.go:96", after:=#[gd 13,gd 15,gc 9,{ on:=9,ground:=Ground.guard }],guard:=some (9,true) }) rfl (fun K hK=>?_) AllReadyH.nil
    rw [if_pos (by rfl)]
    clear hSw
    go_simp
    refine (has_any _ ms nm W1.drew (HMS.out)).mono ?_;rintro e' w' ⟨rfl,rfl⟩
    rw [HX2.out]
    refine hK.out _ _ (SameTo.drew _ _) (fun hSw=>?_)
    clear hK K
    try simp only [Act.put,q1,q2,q3]
    refine wt (i:=17) (oi:={ dst:=some 26,op:=Op.unOp UnOp.not 4 (Operand.tmp 25),type:=4,pos := "check.go:96", after:=#[gd 16,{ on:=9,ground:=Ground.guard }],guard:=some (9,true) }) (v:=.bool true) (fun W hW=>?_) hSw ?_
    · first|(go_simp;done)|rfl
    try simp only [Act.put,q1,q2,q3]
    refine wt (i:=18) (oi:={ dst:=some 27,op:=Op.pick (Operand.tmp 18) (Operand.tmp 26) (Operand.const (Value.bool false)),type:=4,pos := "check.go:96", after:=#[gd 9,gd 17],guard:=none }) (v:=.bool true) (fun W hW=>?_) hSw ?_
    · first|(go_simp;done)|rfl
    try simp only [Act.put,q1,q2,q3]
    refine wt (i:=19) (oi:={ dst:=some 28,op:=Op.move (Operand.tmp 27),type:=4,pos := "check.go:96", after:=#[gd 18,gc 16],guard:=none }) (v:=.bool true) (fun W hW=>?_) hSw ?_
    · first|(go_simp;done)|rfl
    try simp only [Act.put,q1,q2,q3]
    refine wt (i:=20) (oi:={ dst:=some 29,op:=Op.move (Operand.tmp 0),type:=73,pos := "check.go:96", after:=#[{ on:=19,ground:=Ground.guard }],guard:=some (19,true) }) (v:=.pointer (some ⟨c,0,none⟩)) (fun W hW=>?_) hSw ?_
    · first|(go_simp;done)|rfl
    try simp only [Act.put,q1,q2,q3]
    refine wt (i:=21) (oi:={ dst:=some 30,op:=Op.nilCheck (Operand.tmp 29),type:=0,pos := "check.go:96", after:=#[gd 20,{ on:=19,ground:=Ground.guard }],guard:=some (19,true) }) (v:=.pointer (some ⟨c,0,none⟩)) (fun W hW=>?_) hSw ?_
    · first|(go_simp;done)|rfl
    try simp only [Act.put,q1,q2,q3]
    refine wt (i:=22) (oi:={ dst:=some 31,op:=Op.fieldAddr 112 (Operand.tmp 30) 4,type:=0,pos := "check.go:96", after:=#[gd 21,{ on:=19,ground:=Ground.guard }],guard:=some (19,true) }) (v:=.pointer (some ⟨c,7,none⟩)) (fun W hW=>?_) hSw ?_
    · first|(go_simp;done)|rfl
    try simp only [Act.put,q1,q2,q3]
    refine wt (i:=23) (oi:={ dst:=some 32,op:=Op.load 104 (Operand.tmp 31),type:=104,pos := "check.go:96", after:=#[gd 22,{ on:=19,ground:=Ground.guard }],guard:=some (19,true) }) (v:=.map (some mf)) (fun W hW=>?_) hSw ?_
    · have q7:=hW.cell (by dsimp only;omega) q7
      first|(go_simp;done)|rfl
    try simp only [Act.put,q1,q2,q3]
    refine wt (i:=24) (oi:={ dst:=some 33,op:=Op.fieldAddr 33 (Operand.tmp 5) 0,type:=0,pos := "check.go:96", after:=#[{ on:=19,ground:=Ground.guard }],guard:=some (19,true) }) (v:=.pointer (some ⟨w.heap.size,0,none⟩)) (fun W hW=>?_) hSw ?_
    · first|(go_simp;done)|rfl
    try simp only [Act.put,q1,q2,q3]
    refine wt (i:=25) (oi:={ dst:=some 34,op:=Op.load 9 (Operand.tmp 33),type:=9,pos := "check.go:96", after:=#[gd 24,{ on:=19,ground:=Ground.guard }],guard:=some (19,true) }) (v:=.string nm) (fun W hW=>?_) hSw ?_
    · have b0:=hW.cell (by dsimp only;omega) b0
      first|(go_simp;done)|rfl
    try simp only [Act.put,q1,q2,q3]
    refine wt (i:=26) (oi:={ dst:=some 35,op:=Op.lookup 104 (Operand.tmp 32) (Operand.tmp 34) false,type:=3,pos := "check.go:96", after:=#[gd 23,gd 25,{ on:=19,ground:=Ground.guard }],guard:=some (19,true) }) (v:=.int .i64 (idxI nm (nnames e.funcs))) (fun W hW=>?_) hSw ?_
    · have hlk:=look_nm HMF.out nm W (hW _ (by omega))
      first|(go_simp;done)|rfl
    try simp only [Act.put,q1,q2,q3]
    refine wt (i:=27) (oi:={ dst:=some 36,op:=Op.move (Operand.tmp 1),type:=3,pos := "check.go:96", after:=#[{ on:=19,ground:=Ground.guard }],guard:=some (19,true) }) (v:=.int .i64 (i:Int)) (fun W hW=>?_) hSw ?_
    · first|(go_simp;done)|rfl
    try simp only [Act.put,q1,q2,q3]
    refine wt (i:=28) (oi:={ dst:=some 37,op:=Op.binOp BinOp.eql 3 (Operand.tmp 35) (Operand.tmp 36) 3,type:=4,pos := "check.go:96", after:=#[gd 26,gd 27,{ on:=19,ground:=Ground.guard }],guard:=some (19,true) }) (v:=.bool false) (fun W hW=>?_) hSw ?_
    · first|(go_simp;done)|rfl
    try simp only [Act.put,q1,q2,q3]
    refine wt (i:=29) (oi:={ dst:=some 38,op:=Op.pick (Operand.tmp 28) (Operand.tmp 37) (Operand.const (Value.bool false)),type:=4,pos := "check.go:96", after:=#[gd 19,gd 28],guard:=none }) (v:=.bool false) (fun W hW=>?_) hSw ?_
    · first|(go_simp;done)|rfl
    try simp only [Act.put,q1,q2,q3]
    refine wpAnyH_ready (rs:=[30]) (by kernel_rfl) (by simp) ?_
    refine AllReadyH.cons (o:={ dst:=some 39,op:=Op.call { callee:=Callee.value (Operand.func 54),args:=#[Operand.tmp 9,Operand.tmp 38,Operand.const (Value.int IntKind.i64 8)],argTypes:=#[73,4,37] },type:=0,pos := "check.go:96", after:=#[gd 0,gd 29,gc 19],guard:=none }) rfl (fun K hK=>?_) AllReadyH.nil
    rw [if_pos (by rfl)]
    clear hSw
    go_simp
    refine (tmust_no c p 8 W1.drew q8).mono ?_;rintro e' w' ⟨rfl,rfl⟩
    exact⟨rfl,LsE.no (q:=(p,8)) HR.out (Only.of HB.out.drew)⟩
  have HR2:=Lib.hid (show R=bodyT e p FF (parsT e [] ps) by rw [hR2,if_neg (by rw [hx1,hx2];simp [hid])])
  rw [decide_eq_true hid] at hqe
  clear hx1 hx2 hR2 hid
  go_enter Tryz.func57,Tryz.ntmps57
  go_wp2_with fail
  rw [← HW.out]
  refine wp_region_held_drew (S:=SameTo (W1.heap.size) W1) (by kernel_rfl) (SameTo.drew _ _) (fun hSw=>?_)
  refine wt (i:=0) (oi:={ dst:=some 9,op:=Op.move (Operand.tmp 0),type:=73,pos := "check.go:96", after:=#[],guard:=none }) (v:=.pointer (some ⟨c,0,none⟩)) (fun W hW=>?_) hSw ?_
  · first|(go_simp;done)|rfl
  try simp only [Act.put,q1,q2,q3]
  refine wt (i:=1) (oi:={ dst:=some 10,op:=Op.move (Operand.tmp 0),type:=73,pos := "check.go:96", after:=#[],guard:=none }) (v:=.pointer (some ⟨c,0,none⟩)) (fun W hW=>?_) hSw ?_
  · first|(go_simp;done)|rfl
  try simp only [Act.put,q1,q2,q3]
  refine wt (i:=2) (oi:={ dst:=some 11,op:=Op.nilCheck (Operand.tmp 10),type:=0,pos := "check.go:96", after:=#[gd 1],guard:=none }) (v:=.pointer (some ⟨c,0,none⟩)) (fun W hW=>?_) hSw ?_
  · first|(go_simp;done)|rfl
  try simp only [Act.put,q1,q2,q3]
  refine wt (i:=3) (oi:={ dst:=some 12,op:=Op.fieldAddr 112 (Operand.tmp 11) 1,type:=0,pos := "check.go:96", after:=#[gd 2],guard:=none }) (v:=.pointer (some ⟨c,4,none⟩)) (fun W hW=>?_) hSw ?_
  · first|(go_simp;done)|rfl
  try simp only [Act.put,q1,q2,q3]
  refine wt (i:=4) (oi:={ dst:=some 13,op:=Op.load 104 (Operand.tmp 12),type:=104,pos := "check.go:96", after:=#[gd 3],guard:=none }) (v:=.map (some mr)) (fun W hW=>?_) hSw ?_
  · have q4:=hW.cell (by dsimp only;omega) q4
    first|(go_simp;done)|rfl
  try simp only [Act.put,q1,q2,q3]
  refine wt (i:=5) (oi:={ dst:=some 14,op:=Op.fieldAddr 33 (Operand.tmp 5) 0,type:=0,pos := "check.go:96", after:=#[],guard:=none }) (v:=.pointer (some ⟨w.heap.size,0,none⟩)) (fun W hW=>?_) hSw ?_
  · first|(go_simp;done)|rfl
  try simp only [Act.put,q1,q2,q3]
  refine wt (i:=6) (oi:={ dst:=some 15,op:=Op.load 9 (Operand.tmp 14),type:=9,pos := "check.go:96", after:=#[gd 5],guard:=none }) (v:=.string nm) (fun W hW=>?_) hSw ?_
  · have b0:=hW.cell (by dsimp only;omega) b0
    first|(go_simp;done)|rfl
  try simp only [Act.put,q1,q2,q3]
  refine wpAnyH_ready (rs:=[7]) (by kernel_rfl) (by simp) ?_
  refine AllReadyH.cons (o:={ dst:=some 16,op:=Op.call { callee:=Callee.value (Operand.func 55),args:=#[Operand.tmp 13,Operand.tmp 15],argTypes:=#[104,9] },type:=4,pos := "check.go:96", after:=#[gd 4,gd 6],guard:=none }) rfl (fun K hK=>?_) AllReadyH.nil
  rw [if_pos (by rfl)]
  clear hSw
  go_simp
  refine (has_any _ mr nm W1.drew (HMR.out)).mono ?_;rintro e' w' ⟨rfl,rfl⟩
  rw [HX1.out]
  refine hK.out _ _ (SameTo.drew _ _) (fun hSw=>?_)
  clear hK K
  try simp only [Act.put,q1,q2,q3]
  refine wt (i:=8) (oi:={ dst:=some 17,op:=Op.unOp UnOp.not 4 (Operand.tmp 16),type:=4,pos := "check.go:96", after:=#[gd 7],guard:=none }) (v:=.bool true) (fun W hW=>?_) hSw ?_
  · first|(go_simp;done)|rfl
  try simp only [Act.put,q1,q2,q3]
  refine wt (i:=9) (oi:={ dst:=some 18,op:=Op.move (Operand.tmp 17),type:=4,pos := "check.go:96", after:=#[gd 8,gc 7],guard:=none }) (v:=.bool true) (fun W hW=>?_) hSw ?_
  · first|(go_simp;done)|rfl
  try simp only [Act.put,q1,q2,q3]
  refine wt (i:=10) (oi:={ dst:=some 19,op:=Op.move (Operand.tmp 0),type:=73,pos := "check.go:96", after:=#[{ on:=9,ground:=Ground.guard }],guard:=some (9,true) }) (v:=.pointer (some ⟨c,0,none⟩)) (fun W hW=>?_) hSw ?_
  · first|(go_simp;done)|rfl
  try simp only [Act.put,q1,q2,q3]
  refine wt (i:=11) (oi:={ dst:=some 20,op:=Op.nilCheck (Operand.tmp 19),type:=0,pos := "check.go:96", after:=#[gd 10,{ on:=9,ground:=Ground.guard }],guard:=some (9,true) }) (v:=.pointer (some ⟨c,0,none⟩)) (fun W hW=>?_) hSw ?_
  · first|(go_simp;done)|rfl
  try simp only [Act.put,q1,q2,q3]
  refine wt (i:=12) (oi:={ dst:=some 21,op:=Op.fieldAddr 112 (Operand.tmp 20) 3,type:=0,pos := "check.go:96", after:=#[gd 11,{ on:=9,ground:=Ground.guard }],guard:=some (9,true) }) (v:=.pointer (some ⟨c,6,none⟩)) (fun W hW=>?_) hSw ?_
  · first|(go_simp;done)|rfl
  try simp only [Act.put,q1,q2,q3]
  refine wt (i:=13) (oi:={ dst:=some 22,op:=Op.load 104 (Operand.tmp 21),type:=104,pos := "check.go:96", after:=#[gd 12,{ on:=9,ground:=Ground.guard }],guard:=some (9,true) }) (v:=.map (some ms)) (fun W hW=>?_) hSw ?_
  · have q6:=hW.cell (by dsimp only;omega) q6
    first|(go_simp;done)|rfl
  try simp only [Act.put,q1,q2,q3]
  refine wt (i:=14) (oi:={ dst:=some 23,op:=Op.fieldAddr 33 (Operand.tmp 5) 0,type:=0,pos := "check.go:96", after:=#[{ on:=9,ground:=Ground.guard }],guard:=some (9,true) }) (v:=.pointer (some ⟨w.heap.size,0,none⟩)) (fun W hW=>?_) hSw ?_
  · first|(go_simp;done)|rfl
  try simp only [Act.put,q1,q2,q3]
  refine wt (i:=15) (oi:={ dst:=some 24,op:=Op.load 9 (Operand.tmp 23),type:=9,pos := "check.go:96", after:=#[gd 14,{ on:=9,ground:=Ground.guard }],guard:=some (9,true) }) (v:=.string nm) (fun W hW=>?_) hSw ?_
  · have b0:=hW.cell (by dsimp only;omega) b0
    first|(go_simp;done)|rfl
  try simp only [Act.put,q1,q2,q3]
  refine wpAnyH_ready (rs:=[16]) (by kernel_rfl) (by simp) ?_
  refine AllReadyH.cons (o:={ dst:=some 25,op:=Op.call { callee:=Callee.value (Operand.func 55),args:=#[Operand.tmp 22,Operand.tmp 24],argTypes:=#[104,9] },type:=4,pos := "check.go:96", after:=#[gd 13,gd 15,gc 9,{ on:=9,ground:=Ground.guard }],guard:=some (9,true) }) rfl (fun K hK=>?_) AllReadyH.nil
  rw [if_pos (by rfl)]
  clear hSw
  go_simp
  refine (has_any _ ms nm W1.drew (HMS.out)).mono ?_;rintro e' w' ⟨rfl,rfl⟩
  rw [HX2.out]
  refine hK.out _ _ (SameTo.drew _ _) (fun hSw=>?_)
  clear hK K
  try simp only [Act.put,q1,q2,q3]
  refine wt (i:=17) (oi:={ dst:=some 26,op:=Op.unOp UnOp.not 4 (Operand.tmp 25),type:=4,pos := "check.go:96", after:=#[gd 16,{ on:=9,ground:=Ground.guard }],guard:=some (9,true) }) (v:=.bool true) (fun W hW=>?_) hSw ?_
  · first|(go_simp;done)|rfl
  try simp only [Act.put,q1,q2,q3]
  refine wt (i:=18) (oi:={ dst:=some 27,op:=Op.pick (Operand.tmp 18) (Operand.tmp 26) (Operand.const (Value.bool false)),type:=4,pos := "check.go:96", after:=#[gd 9,gd 17],guard:=none }) (v:=.bool true) (fun W hW=>?_) hSw ?_
  · first|(go_simp;done)|rfl
  try simp only [Act.put,q1,q2,q3]
  refine wt (i:=19) (oi:={ dst:=some 28,op:=Op.move (Operand.tmp 27),type:=4,pos := "check.go:96", after:=#[gd 18,gc 16],guard:=none }) (v:=.bool true) (fun W hW=>?_) hSw ?_
  · first|(go_simp;done)|rfl
  try simp only [Act.put,q1,q2,q3]
  refine wt (i:=20) (oi:={ dst:=some 29,op:=Op.move (Operand.tmp 0),type:=73,pos := "check.go:96", after:=#[{ on:=19,ground:=Ground.guard }],guard:=some (19,true) }) (v:=.pointer (some ⟨c,0,none⟩)) (fun W hW=>?_) hSw ?_
  · first|(go_simp;done)|rfl
  try simp only [Act.put,q1,q2,q3]
  refine wt (i:=21) (oi:={ dst:=some 30,op:=Op.nilCheck (Operand.tmp 29),type:=0,pos := "check.go:96", after:=#[gd 20,{ on:=19,ground:=Ground.guard }],guard:=some (19,true) }) (v:=.pointer (some ⟨c,0,none⟩)) (fun W hW=>?_) hSw ?_
  · first|(go_simp;done)|rfl
  try simp only [Act.put,q1,q2,q3]
  refine wt (i:=22) (oi:={ dst:=some 31,op:=Op.fieldAddr 112 (Operand.tmp 30) 4,type:=0,pos := "check.go:96", after:=#[gd 21,{ on:=19,ground:=Ground.guard }],guard:=some (19,true) }) (v:=.pointer (some ⟨c,7,none⟩)) (fun W hW=>?_) hSw ?_
  · first|(go_simp;done)|rfl
  try simp only [Act.put,q1,q2,q3]
  refine wt (i:=23) (oi:={ dst:=some 32,op:=Op.load 104 (Operand.tmp 31),type:=104,pos := "check.go:96", after:=#[gd 22,{ on:=19,ground:=Ground.guard }],guard:=some (19,true) }) (v:=.map (some mf)) (fun W hW=>?_) hSw ?_
  · have q7:=hW.cell (by dsimp only;omega) q7
    first|(go_simp;done)|rfl
  try simp only [Act.put,q1,q2,q3]
  refine wt (i:=24) (oi:={ dst:=some 33,op:=Op.fieldAddr 33 (Operand.tmp 5) 0,type:=0,pos := "check.go:96", after:=#[{ on:=19,ground:=Ground.guard }],guard:=some (19,true) }) (v:=.pointer (some ⟨w.heap.size,0,none⟩)) (fun W hW=>?_) hSw ?_
  · first|(go_simp;done)|rfl
  try simp only [Act.put,q1,q2,q3]
  refine wt (i:=25) (oi:={ dst:=some 34,op:=Op.load 9 (Operand.tmp 33),type:=9,pos := "check.go:96", after:=#[gd 24,{ on:=19,ground:=Ground.guard }],guard:=some (19,true) }) (v:=.string nm) (fun W hW=>?_) hSw ?_
  · have b0:=hW.cell (by dsimp only;omega) b0
    first|(go_simp;done)|rfl
  try simp only [Act.put,q1,q2,q3]
  refine wt (i:=26) (oi:={ dst:=some 35,op:=Op.lookup 104 (Operand.tmp 32) (Operand.tmp 34) false,type:=3,pos := "check.go:96", after:=#[gd 23,gd 25,{ on:=19,ground:=Ground.guard }],guard:=some (19,true) }) (v:=.int .i64 (idxI nm (nnames e.funcs))) (fun W hW=>?_) hSw ?_
  · have hlk:=look_nm HMF.out nm W (hW _ (by omega))
    first|(go_simp;done)|rfl
  try simp only [Act.put,q1,q2,q3]
  refine wt (i:=27) (oi:={ dst:=some 36,op:=Op.move (Operand.tmp 1),type:=3,pos := "check.go:96", after:=#[{ on:=19,ground:=Ground.guard }],guard:=some (19,true) }) (v:=.int .i64 (i:Int)) (fun W hW=>?_) hSw ?_
  · first|(go_simp;done)|rfl
  try simp only [Act.put,q1,q2,q3]
  refine wt (i:=28) (oi:={ dst:=some 37,op:=Op.binOp BinOp.eql 3 (Operand.tmp 35) (Operand.tmp 36) 3,type:=4,pos := "check.go:96", after:=#[gd 26,gd 27,{ on:=19,ground:=Ground.guard }],guard:=some (19,true) }) (v:=.bool true) (fun W hW=>?_) hSw ?_
  · first|(go_simp;done)|rfl
  try simp only [Act.put,q1,q2,q3]
  refine wt (i:=29) (oi:={ dst:=some 38,op:=Op.pick (Operand.tmp 28) (Operand.tmp 37) (Operand.const (Value.bool false)),type:=4,pos := "check.go:96", after:=#[gd 19,gd 28],guard:=none }) (v:=.bool true) (fun W hW=>?_) hSw ?_
  · first|(go_simp;done)|rfl
  try simp only [Act.put,q1,q2,q3]
  refine wpAnyH_ready (rs:=[30]) (by kernel_rfl) (by simp) ?_
  refine AllReadyH.cons (o:={ dst:=some 39,op:=Op.call { callee:=Callee.value (Operand.func 54),args:=#[Operand.tmp 9,Operand.tmp 38,Operand.const (Value.int IntKind.i64 8)],argTypes:=#[73,4,37] },type:=0,pos := "check.go:96", after:=#[gd 0,gd 29,gc 19],guard:=none }) rfl (fun K hK=>?_) AllReadyH.nil
  rw [if_pos (by rfl)]
  clear hSw
  go_simp
  refine (tmust_yes c 8 W1.drew).mono ?_;rintro e' w' ⟨rfl,rfl⟩
  refine hK.out _ _ (SameTo.drew _ _) (fun hSw=>?_)
  clear hK K
  try simp only [Act.put,q1,q2,q3]
  refine wpAnyH_done (by kernel_rfl) ?_ _
  clear q4 q6 q7 hqe
  go_wp2_with fail
  clear b0 b1 b2 b3 b4 b5 q8
  go_loopw [43,6] (fun q va wr=>∃ k:Nat,k≤M∧q = .int .i64 k∧∃ loc:List Fd,Hid (R=bodyT e p FF (parsT e loc (ps.drop k)))∧Lc wr va loc∧Below W1.heap.size W1 wr) (fun q _ _=>M - (intOf q).toNat)
  case atStart=>exact⟨0,by omega,rfl,[],Lib.hid HR2.out,rfl,(Below.refl _ _).drew⟩
  case round =>
    obtain⟨k,hkM,rfl,loc,HF,hLc,hBr⟩:=hrel
    have hsr:=hBr.size
    obtain⟨lo,rfl⟩:=lc_ptr hLc
    by_cases hlt2:k < M
    · obtain⟨g,off,rfl,hg⟩:=HG.out (by omega)
      obtain⟨⟨pn,⟨pk,ptn,pz⟩⟩,hff⟩:∃ f,ps[k]? = some f:=⟨_,List.getElem?_eq_getElem (by rw [← HN.out];exact hlt2)⟩
      obtain⟨hgl,p0,p1,p2,p3⟩:=st_field2 (HLI.out.below (hBr.mono (by omega))) rfl hff
      have hdr:=List.drop_eq_getElem_cons (show k < ps.length by rw [← HN.out];exact hlt2)
      have hgk:ps[k]'(by rw [← HN.out];exact hlt2)=⟨pn,⟨pk,ptn,pz⟩⟩:=(List.getElem?_eq_some_iff.1 hff).2
      simp only at p0 p1 p2 p3
      have hb5:=below_box wr (.cells #[.string pn,.int .u8 pk,.string ptn,.int .i64 pz] 57)
      have HDE:=Lib.hid (declared_any c e tv p res loc (.pointer lo) ⟨pn,⟨pk,ptn,pz⟩⟩ (wr.alloc (.cells #[.string pn,.int .u8 pk,.string ptn,.int .i64 pz] 57)) ((HS1.out.tk.kept hBr).kept hb5) (hLc.below hb5))
      have HB5:=Lib.hid (hBr.trans (hb5.mono hsr))
      have HST:=Lib.hid (show R=bodyT e p FF (if declE e loc ⟨pn,⟨pk,ptn,pz⟩⟩ ≠ 0 then .error (declE e loc ⟨pn,⟨pk,ptn,pz⟩⟩) else parsT e (⟨pn,⟨pk,ptn,pz⟩⟩ :: loc) (ps.drop (k+1))) by
        rw [HF.out,hdr,hgk,parsT_cons])
      have hgs:g < wr.heap.size:=by omega
      obtain⟨d,hd⟩:∃ d,d=declE e loc ⟨pn,⟨pk,ptn,pz⟩⟩:=⟨_,rfl⟩
      rw [← hd] at HDE HST
      clear hff hdr hgk hb5 hLc hBr HF hd
      go_wp2_with fail
      refine HDE.out.mono ?_;rintro e' w6 ⟨hb6,hy6,hn6⟩
      have HB6:=Lib.hid (HB5.out.trans (hb6.mono (by simp;omega)))
      by_cases hd0:d=0
      rotate_left
      · obtain rfl:=hn6 hd0
        exact⟨rfl,LsE.no (q:=(p,d)) (by rw [HST.out,if_pos hd0];rfl) (Only.of (HB.out.trans (HB6.out.mono (by omega))))⟩
      obtain⟨g6,rfl,hL6⟩:=hy6 hd0
      have HR6:=Lib.hid (show R=bodyT e p FF (parsT e (⟨pn,⟨pk,ptn,pz⟩⟩ :: loc) (ps.drop (k+1))) by rw [HST.out,if_neg (fun q=>q hd0)])
      have HL6:=Lib.hid hL6
      clear hb6 hy6 hn6 hL6 hd0 p0 p1 p2 p3
      go_wp2_with fail
      go_roundw
      case rel=>exact⟨k+1,by omega,by go_num,_,HR6,HL6.out,HB6.out⟩
      case measure=>simp [intOf];omega
    · have HR6:=Lib.hid (show R=if knownT e ⟨fk,fn,fz⟩ = true then stsT e ⟨fk,fn,fz⟩ loc p body else .error (p,9) by rw [HF.out,List.drop_eq_nil_of_le (by rw [← HN.out];omega),HFF.out];rfl)
      have hO6:=(hBr.block w.heap.size (by omega)).trans HO.out
      obtain⟨b0,b1,b2,b3,b4,b5⟩:=own6 hO6
      have HO6:=Lib.hid hO6
      have HK:=Lib.hid (known_any c e tv p res ⟨fk,fn,fz⟩ wr (HS1.out.tk.kept hBr))
      have HL6:=Lib.hid hLc
      have HBr:=Lib.hid hBr
      clear hBr hLc HF hO6
      go_wp2_with fail
      refine HK.out.mono ?_;rintro e' w7 ⟨he,hb7⟩
      have hs7:=hb7.size
      by_cases hkn:knownT e ⟨fk,fn,fz⟩ = true
      rotate_left
      · rw [show knownE e ⟨fk,fn,fz⟩ = 9 from if_neg hkn,askE_no (by decide)] at he
        subst he
        exact⟨rfl,LsE.no (q:=(p,9)) (by rw [HR6.out,if_neg hkn]) (Only.of (HB.out.trans ((HBr.out.trans (hb7.mono hsr)).mono (by omega))))⟩
      rw [show knownE e ⟨fk,fn,fz⟩ = 0 from if_pos hkn,askE_0 rfl] at he
      subst he
      have HR7:=Lib.hid (HR6.out.trans (if_pos hkn))
      have HB7:=Lib.hid (HB.out.trans ((HBr.out.trans (hb7.mono hsr)).mono (by omega)))
      have HS7:=Lib.hid ((HS1.out.kept HBr.out).kept hb7)
      have HL7:=Lib.hid (HL6.out.below hb7)
      have hO7:=(hb7.block w.heap.size (by omega)).trans HO6.out
      have HO7:=Lib.hid hO7
      clear hb7 hkn b0 b1 b2 b3 b4 b5
      obtain⟨b0,b1,b2,b3,b4,b5⟩:=own6 hO7
      obtain⟨K7,⟨-,-,-,-,-,-,-,-,-,q9,q10,q11⟩,hfr,-⟩:=HS7.out.tk.cells
      have f9:=hfr 9
      have f10:=hfr 10
      have f11:=hfr 11
      have hcz:w.heap.size ≠ c:=by omega
      obtain⟨W9,hW9⟩:∃ W9,W9=((w7.setCell ⟨c,9,none⟩ (.int .u8 fk)).setCell ⟨c,10,none⟩ (.string fn)).setCell ⟨c,11,none⟩ (.int .i64 fz):=⟨_,rfl⟩
      have hO9:Only c w7 W9:=by rw [hW9];exact (((Only.refl c w7).cell 9 _).cell 10 _).cell 11 _
      have hz9:w7.heap.size=W9.heap.size:=by rw [hW9];simp [World.setCell]
      have hT9:Tk c e tv p ⟨fk,fn,fz⟩ W9:=HS7.out.tk.set p ⟨fk,fn,fz⟩ hz9 (fun k hk=>by
          rw [hW9]
          exact ((Below.heap_setCell _ _ _ _ (by simpa using hk)).trans (Below.heap_setCell _ _ _ _ (by simpa using hk))).trans (Below.heap_setCell _ _ _ _ (by simpa using hk))) (fun K hK=>by rw [hW9];simp [World.setCell,Array.getElem?_modify,hK,Kc.cells])
        ((HS7.out.ein.keeps (hO9.below HS7.out.hB HS7.out.hw)).up (by have:=HS7.out.hw;omega))
      have hS9:=HS7.out.only hO9 hT9
      have hO9b:=(hO9.block w.heap.size (by omega) hcz).trans HO7.out
      have hb9:=((HB7.out.mono hw).trans (hO9.below HS7.out.hB HS7.out.hw))
      have HLS:=Lib.hid (tlist_all body B c e tv p ⟨fk,fn,fz⟩ loc (.pointer lo) (.slice bo L bc) W9 hS9 (HBLI.out.below hb9) (fun a ha=>SIn.keeps hb9 _ (HBIN.out a ha)) HFBD.out (HL7.out.only HS7.out.tk hO9) hp0 HP1.out)
      obtain⟨-,-,-,-,-,y5⟩:=own6 hO9b
      rw [hW9] at y5
      have HO9:=Lib.hid ((Only.of HB7.out).trans hO9)
      have HW9:=Lib.hid hW9
      clear hfr hW9 hO9 hT9 hS9 hO9b hb9 hO7
      go_wp2_with fail
      rw [← HW9.out]
      refine HLS.out.mono ?_;rintro e' w8 ⟨hO8,hy8,hn8⟩
      cases hq:stsT e ⟨fk,fn,fz⟩ loc p body with
      | error q =>
        obtain rfl:=hn8 q hq
        exact⟨rfl,LsE.no (HR7.out.trans hq) (HO9.out.trans hO8)⟩
      | ok q =>
        obtain⟨rfl,hT8⟩:=hy8 q hq
        have HR8:=Lib.hid (HR7.out.trans hq)
        have HO8:=Lib.hid (HO9.out.trans hO8)
        have HT8:=Lib.hid hT8
        clear hO8 hy8 hn8 hT8 hq b0 b1 b2 b3 b4 b5 q9 q10 q11 f9 f10 f11 y5
        go_wp2_with fail
        go_end0
        exact LsE.ok HR8.out HO8.out HT8.out
end Go.Proofs.YtdhieihcmnpneaaGreatDoor
