/- What the types layer asks of a type, of a local that is declared, of two types. -/
import Derived.Test.YtdhieihcmnpneaaGreatDoorRows
import Derived.Test.YtdhieihcmnpneaaGreatDoorTypWt
import Derived.Test.YtdhieihcmnpneaaGreatDoorTypCk
namespace Go.Proofs.YtdhieihcmnpneaaGreatDoor
open Lib (hid)
set_option maxHeartbeats 4000000
set_option maxRecDepth 100000
open Go.RowKit
attribute [local go_sem ↓] Go.wp_at_zero Go.wp_at_succ
def knownE (e:En) (t:Ty):Int:=if knownT e t=true then 0 else 9
theorem known_any (c:Nat) (e:En) (tv:Value) (p:Int) (res t:Ty) (w:World) (h:Tk c e tv p res w) :
    Calls Tryz.prog 56 #[.pointer (some ⟨c,0,none⟩),t.val] w fun e' w'=>e'=askE p (knownE e t)∧Below w.heap.size w w':=by
  obtain⟨tk,tn,tz⟩:=t
  have hlt:=h.lt
  obtain⟨K,⟨-,-,-,-,q4,-,-,-,q8,-,-,-⟩,-,hmr,-⟩:=h.cells
  obtain⟨mr,hmr'⟩:∃ m,m=K.mr:=⟨_,rfl⟩
  rw [← hmr'] at q4 hmr
  have hml:=hmr.lt
  obtain⟨W1,hW1⟩:∃ W1,W1=w.alloc (.cells #[.int .u8 tk,.string tn,.int .i64 tz] 30):=⟨_,rfl⟩
  have hb1:Below w.heap.size w W1:=by rw [hW1];exact below_box w _
  have hz1:W1.heap.size=w.heap.size+1:=by rw [hW1];simp
  have hO:W1.heap[w.heap.size]? = some (.cells #[.int .u8 tk,.string tn,.int .i64 tz] 30 (0,0)):=by rw [hW1];exact (MapKept.heap_alloc _ _).1
  have b1:W1.cell? ⟨w.heap.size,1,none⟩ = some (.string tn):=by rw [Lib.cell_of_heap hO];rfl
  have q4:W1.cell? ⟨c,4,none⟩ = some (.map (some mr)):=by rw [hb1.cell (p:=⟨c,4,none⟩) hlt];exact q4
  have q8:W1.cell? ⟨c,8,none⟩ = some (.int .i64 p):=by rw [hb1.cell (p:=⟨c,8,none⟩) hlt];exact q8
  have HMR:=hid (hmr.of (hb1.block _ hml))
  have HB:=hid hb1
  have HW:=hid hW1
  obtain⟨r,hr⟩:∃ r,r=knownE e ⟨tk,tn,tz⟩:=⟨_,rfl⟩
  show Calls Tryz.prog 56 #[.pointer (some ⟨c,0,none⟩),.agg #[.int .u8 tk,.string tn,.int .i64 tz]] w fun e' w'=>e'=askE p (knownE e ⟨tk,tn,tz⟩)∧Below w.heap.size w w'
  rw [← hr]
  by_cases he:tn.data.toList = []
  · have HR:=hid (show r=0 by rw [hr];unfold knownE knownT;simp [he])
    have t1:=emp_yes he
    have t2:=nil_yes he
    clear h hmr hb1 hr hmr' hO he hW1
    go_enter Tryz.func56,Tryz.ntmps56
    go_wp2_with fail
    rw [← HW.out]
    refine wp_region_held_drew (S:=SameTo (w.heap.size+1) W1) (by kernel_rfl) (SameTo.drew _ _) (fun hSw=>?_)
    refine wt (i:=0) (oi:={ dst:=some 4,op:=Op.move (Operand.tmp 0),type:=73,pos := "check.go:115", after:=#[],guard:=none }) (v:=.pointer (some ⟨c,0,none⟩)) (fun W hW=>?_) hSw ?_
    · first|(go_simp;done)|rfl
    try simp only [Act.put,q1,q2,q3]
    refine wt (i:=1) (oi:={ dst:=some 5,op:=Op.fieldAddr 30 (Operand.tmp 3) 1,type:=0,pos := "check.go:115", after:=#[],guard:=none }) (v:=.pointer (some ⟨w.heap.size,1,none⟩)) (fun W hW=>?_) hSw ?_
    · first|(go_simp;done)|rfl
    try simp only [Act.put,q1,q2,q3]
    refine wt (i:=2) (oi:={ dst:=some 6,op:=Op.load 9 (Operand.tmp 5),type:=9,pos := "check.go:115", after:=#[gd 1],guard:=none }) (v:=.string tn) (fun W hW=>?_) hSw ?_
    · have b1:=hW.cell (by dsimp only;omega) b1
      first|(go_simp;done)|rfl
    try simp only [Act.put,q1,q2,q3]
    refine wt (i:=3) (oi:={ dst:=some 7,op:=Op.binOp BinOp.eql 9 (Operand.tmp 6) (Operand.const (Value.string { data:=#[] })) 9,type:=4,pos := "check.go:115", after:=#[gd 2],guard:=none }) (v:=.bool true) (fun W hW=>?_) hSw ?_
    · first|(go_simp;done)|rfl
    try simp only [Act.put,q1,q2,q3]
    refine wt (i:=4) (oi:={ dst:=some 8,op:=Op.move (Operand.tmp 7),type:=4,pos := "check.go:115", after:=#[gd 3],guard:=none }) (v:=.bool true) (fun W hW=>?_) hSw ?_
    · first|(go_simp;done)|rfl
    try simp only [Act.put,q1,q2,q3]
    refine wpAnyH_take (i:=5) (oi:={ dst:=some 9,op:=Op.move (Operand.tmp 0),type:=73,pos := "check.go:115", after:=#[{ on:=4,ground:=Ground.guard }],guard:=some (4,false) }) (v:=undef) rfl (by kernel_rfl) (by kernel_rfl) (by kernel_rfl) (fun _ _ _ h=>h) (Or.inr ⟨by rfl,rfl⟩) hSw ?_
    try simp only [Act.put,q1,q2,q3]
    refine wpAnyH_take (i:=6) (oi:={ dst:=some 10,op:=Op.nilCheck (Operand.tmp 9),type:=0,pos := "check.go:115", after:=#[gd 5,{ on:=4,ground:=Ground.guard }],guard:=some (4,false) }) (v:=undef) rfl (by kernel_rfl) (by kernel_rfl) (by kernel_rfl) (fun _ _ _ h=>h) (Or.inr ⟨by rfl,rfl⟩) hSw ?_
    try simp only [Act.put,q1,q2,q3]
    refine wpAnyH_take (i:=7) (oi:={ dst:=some 11,op:=Op.fieldAddr 112 (Operand.tmp 10) 1,type:=0,pos := "check.go:115", after:=#[gd 6,{ on:=4,ground:=Ground.guard }],guard:=some (4,false) }) (v:=undef) rfl (by kernel_rfl) (by kernel_rfl) (by kernel_rfl) (fun _ _ _ h=>h) (Or.inr ⟨by rfl,rfl⟩) hSw ?_
    try simp only [Act.put,q1,q2,q3]
    refine wpAnyH_take (i:=8) (oi:={ dst:=some 12,op:=Op.load 104 (Operand.tmp 11),type:=104,pos := "check.go:115", after:=#[gd 7,{ on:=4,ground:=Ground.guard }],guard:=some (4,false) }) (v:=undef) rfl (by kernel_rfl) (by kernel_rfl) (by kernel_rfl) (fun _ _ _ h=>h) (Or.inr ⟨by rfl,rfl⟩) hSw ?_
    try simp only [Act.put,q1,q2,q3]
    refine wpAnyH_take (i:=9) (oi:={ dst:=some 13,op:=Op.fieldAddr 30 (Operand.tmp 3) 1,type:=0,pos := "check.go:115", after:=#[{ on:=4,ground:=Ground.guard }],guard:=some (4,false) }) (v:=undef) rfl (by kernel_rfl) (by kernel_rfl) (by kernel_rfl) (fun _ _ _ h=>h) (Or.inr ⟨by rfl,rfl⟩) hSw ?_
    try simp only [Act.put,q1,q2,q3]
    refine wpAnyH_take (i:=10) (oi:={ dst:=some 14,op:=Op.load 9 (Operand.tmp 13),type:=9,pos := "check.go:115", after:=#[gd 9,{ on:=4,ground:=Ground.guard }],guard:=some (4,false) }) (v:=undef) rfl (by kernel_rfl) (by kernel_rfl) (by kernel_rfl) (fun _ _ _ h=>h) (Or.inr ⟨by rfl,rfl⟩) hSw ?_
    try simp only [Act.put,q1,q2,q3]
    refine wpAnyH_take (i:=11) (oi:={ dst:=some 15,op:=Op.call { callee:=Callee.value (Operand.func 55),args:=#[Operand.tmp 12,Operand.tmp 14],argTypes:=#[104,9] },type:=4,pos := "check.go:115", after:=#[gd 8,gd 10,gc 4,{ on:=4,ground:=Ground.guard }],guard:=some (4,false) }) (v:=undef) rfl (by kernel_rfl) (by kernel_rfl) (by kernel_rfl) (fun _ _ _ h=>h) (Or.inr ⟨by rfl,rfl⟩) hSw ?_
    try simp only [Act.put,q1,q2,q3]
    refine wt (i:=12) (oi:={ dst:=some 16,op:=Op.pick (Operand.tmp 8) (Operand.const (Value.bool true)) (Operand.tmp 15),type:=4,pos := "check.go:115", after:=#[gd 4,gd 11],guard:=none }) (v:=.bool true) (fun W hW=>?_) hSw ?_
    · first|(go_simp;done)|rfl
    try simp only [Act.put,q1,q2,q3]
    refine wpAnyH_ready (rs:=[13]) (by kernel_rfl) (by simp) ?_
    refine AllReadyH.cons (o:={ dst:=some 17,op:=Op.call { callee:=Callee.value (Operand.func 54),args:=#[Operand.tmp 4,Operand.tmp 16,Operand.const (Value.int IntKind.i64 9)],argTypes:=#[73,4,37] },type:=0,pos := "check.go:115", after:=#[gd 0,gd 12,gc 11],guard:=none }) rfl (fun K hK=>?_) AllReadyH.nil
    rw [if_pos (by rfl)]
    clear hSw
    go_simp
    refine (tmust_yes c 9 _).mono ?_;rintro e w' ⟨rfl,rfl⟩
    refine hK.out _ _ (SameTo.drew _ _) (fun hSw=>?_)
    clear hK K
    try simp only [Act.put,q1,q2,q3]
    refine wpAnyH_done (by kernel_rfl) ?_ _
    go_wp2_with fail
    go_end0
    exact⟨ask_yes HR.out,HB.out.drew⟩
  · obtain⟨rb,hrb⟩:∃ b,b=(idx tn (rnames e.records)).isSome:=⟨_,rfl⟩
    have HR:=hid (show r=if rb=true then 0 else 9 by
      rw [hr,hrb];unfold knownE knownT
      simp [he])
    have t1:=emp_no he
    have HRB:=hid hrb
    clear h hmr hb1 hr hmr' hO he hW1 hrb
    go_enter Tryz.func56,Tryz.ntmps56
    go_wp2_with fail
    rw [← HW.out]
    refine wp_region_held_drew (S:=SameTo (w.heap.size+1) W1) (by kernel_rfl) (SameTo.drew _ _) (fun hSw=>?_)
    refine wt (i:=0) (oi:={ dst:=some 4,op:=Op.move (Operand.tmp 0),type:=73,pos := "check.go:115", after:=#[],guard:=none }) (v:=.pointer (some ⟨c,0,none⟩)) (fun W hW=>?_) hSw ?_
    · first|(go_simp;done)|rfl
    try simp only [Act.put,q1,q2,q3]
    refine wt (i:=1) (oi:={ dst:=some 5,op:=Op.fieldAddr 30 (Operand.tmp 3) 1,type:=0,pos := "check.go:115", after:=#[],guard:=none }) (v:=.pointer (some ⟨w.heap.size,1,none⟩)) (fun W hW=>?_) hSw ?_
    · first|(go_simp;done)|rfl
    try simp only [Act.put,q1,q2,q3]
    refine wt (i:=2) (oi:={ dst:=some 6,op:=Op.load 9 (Operand.tmp 5),type:=9,pos := "check.go:115", after:=#[gd 1],guard:=none }) (v:=.string tn) (fun W hW=>?_) hSw ?_
    · have b1:=hW.cell (by dsimp only;omega) b1
      first|(go_simp;done)|rfl
    try simp only [Act.put,q1,q2,q3]
    refine wt (i:=3) (oi:={ dst:=some 7,op:=Op.binOp BinOp.eql 9 (Operand.tmp 6) (Operand.const (Value.string { data:=#[] })) 9,type:=4,pos := "check.go:115", after:=#[gd 2],guard:=none }) (v:=.bool false) (fun W hW=>?_) hSw ?_
    · first|(go_simp;done)|rfl
    try simp only [Act.put,q1,q2,q3]
    refine wt (i:=4) (oi:={ dst:=some 8,op:=Op.move (Operand.tmp 7),type:=4,pos := "check.go:115", after:=#[gd 3],guard:=none }) (v:=.bool false) (fun W hW=>?_) hSw ?_
    · first|(go_simp;done)|rfl
    try simp only [Act.put,q1,q2,q3]
    refine wt (i:=5) (oi:={ dst:=some 9,op:=Op.move (Operand.tmp 0),type:=73,pos := "check.go:115", after:=#[{ on:=4,ground:=Ground.guard }],guard:=some (4,false) }) (v:=.pointer (some ⟨c,0,none⟩)) (fun W hW=>?_) hSw ?_
    · first|(go_simp;done)|rfl
    try simp only [Act.put,q1,q2,q3]
    refine wt (i:=6) (oi:={ dst:=some 10,op:=Op.nilCheck (Operand.tmp 9),type:=0,pos := "check.go:115", after:=#[gd 5,{ on:=4,ground:=Ground.guard }],guard:=some (4,false) }) (v:=.pointer (some ⟨c,0,none⟩)) (fun W hW=>?_) hSw ?_
    · first|(go_simp;done)|rfl
    try simp only [Act.put,q1,q2,q3]
    refine wt (i:=7) (oi:={ dst:=some 11,op:=Op.fieldAddr 112 (Operand.tmp 10) 1,type:=0,pos := "check.go:115", after:=#[gd 6,{ on:=4,ground:=Ground.guard }],guard:=some (4,false) }) (v:=.pointer (some ⟨c,4,none⟩)) (fun W hW=>?_) hSw ?_
    · first|(go_simp;done)|rfl
    try simp only [Act.put,q1,q2,q3]
    refine wt (i:=8) (oi:={ dst:=some 12,op:=Op.load 104 (Operand.tmp 11),type:=104,pos := "check.go:115", after:=#[gd 7,{ on:=4,ground:=Ground.guard }],guard:=some (4,false) }) (v:=.map (some mr)) (fun W hW=>?_) hSw ?_
    · have q4:=hW.cell (by dsimp only;omega) q4
      first|(go_simp;done)|rfl
    try simp only [Act.put,q1,q2,q3]
    refine wt (i:=9) (oi:={ dst:=some 13,op:=Op.fieldAddr 30 (Operand.tmp 3) 1,type:=0,pos := "check.go:115", after:=#[{ on:=4,ground:=Ground.guard }],guard:=some (4,false) }) (v:=.pointer (some ⟨w.heap.size,1,none⟩)) (fun W hW=>?_) hSw ?_
    · first|(go_simp;done)|rfl
    try simp only [Act.put,q1,q2,q3]
    refine wt (i:=10) (oi:={ dst:=some 14,op:=Op.load 9 (Operand.tmp 13),type:=9,pos := "check.go:115", after:=#[gd 9,{ on:=4,ground:=Ground.guard }],guard:=some (4,false) }) (v:=.string tn) (fun W hW=>?_) hSw ?_
    · have b1:=hW.cell (by dsimp only;omega) b1
      first|(go_simp;done)|rfl
    try simp only [Act.put,q1,q2,q3]
    refine wpAnyH_ready (rs:=[11]) (by kernel_rfl) (by simp) ?_
    refine AllReadyH.cons (o:={ dst:=some 15,op:=Op.call { callee:=Callee.value (Operand.func 55),args:=#[Operand.tmp 12,Operand.tmp 14],argTypes:=#[104,9] },type:=4,pos := "check.go:115", after:=#[gd 8,gd 10,gc 4,{ on:=4,ground:=Ground.guard }],guard:=some (4,false) }) rfl (fun K hK=>?_) AllReadyH.nil
    rw [if_pos (by rfl)]
    clear hSw
    go_simp
    refine (has_any _ mr tn _ (HMR.out.of (by rfl))).mono ?_;rintro e w' ⟨rfl,rfl⟩
    rw [← HRB.out]
    refine hK.out _ _ (SameTo.drew _ _) (fun hSw=>?_)
    clear hK K
    try simp only [Act.put,q1,q2,q3]
    refine wt (i:=12) (oi:={ dst:=some 16,op:=Op.pick (Operand.tmp 8) (Operand.const (Value.bool true)) (Operand.tmp 15),type:=4,pos := "check.go:115", after:=#[gd 4,gd 11],guard:=none }) (v:=.bool rb) (fun W hW=>?_) hSw ?_
    · first|(go_simp;done)|rfl
    try simp only [Act.put,q1,q2,q3]
    refine wpAnyH_ready (rs:=[13]) (by kernel_rfl) (by simp) ?_
    refine AllReadyH.cons (o:={ dst:=some 17,op:=Op.call { callee:=Callee.value (Operand.func 54),args:=#[Operand.tmp 4,Operand.tmp 16,Operand.const (Value.int IntKind.i64 9)],argTypes:=#[73,4,37] },type:=0,pos := "check.go:115", after:=#[gd 0,gd 12,gc 11],guard:=none }) rfl (fun K hK=>?_) AllReadyH.nil
    rw [if_pos (by rfl)]
    clear hSw
    go_simp
    refine (tmust_any c p 9 rb W1.drew q8 (by decide)).mono ?_;rintro e w' ⟨he,rfl⟩
    rw [← HR.out] at he
    by_cases h0:r=0
    · rw [askE_0 h0] at he
      subst he
      refine hK.out _ _ (SameTo.drew _ _) (fun hSw=>?_)
      clear hK K
      try simp only [Act.put,q1,q2,q3]
      refine wpAnyH_done (by kernel_rfl) ?_ _
      go_wp2_with fail
      go_end0
      exact⟨ask_yes h0,HB.out.drew⟩
    · rw [askE_no h0] at he
      subst he
      exact⟨rfl,(askE_no h0).symm,HB.out.drew⟩
end Go.Proofs.YtdhieihcmnpneaaGreatDoor
