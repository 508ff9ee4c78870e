/- What the types layer asks of two types. -/
import Derived.Test.YtdhieihcmnpneaaGreatDoorRows
import Derived.Test.YtdhieihcmnpneaaGreatDoorTypWt
import Derived.Test.YtdhieihcmnpneaaGreatDoorTypAsk
import Derived.Laws.Rows
namespace Go.Proofs.YtdhieihcmnpneaaGreatDoor
open Lib (hid)
set_option maxHeartbeats 4000000
set_option maxRecDepth 100000
open Go.RowKit
attribute [local go_sem ↓] Go.wp_at_zero Go.wp_at_succ
theorem own3 {w:World} {b:Nat} {T:TypeId} {fr:Nat × Nat} {a0 a1 a2:Value} (h:w.heap[b]? = some (.cells #[a0,a1,a2] T fr)):w.cell? ⟨b,0,none⟩ = some a0∧w.cell? ⟨b,1,none⟩ = some a1∧w.cell? ⟨b,2,none⟩ = some a2:=
  ⟨by rw [Lib.cell_of_heap h];rfl,by rw [Lib.cell_of_heap h];rfl,by rw [Lib.cell_of_heap h];rfl⟩
theorem fits_any (t u:Ty) (w:World):Calls Tryz.prog 110 #[t.val,u.val] w fun e w'=>e = .returned (.bool (fitsT t u))∧Below w.heap.size w w':=by
  have hq0:=run_tyeq t u
  have hn0:=run_tyeq t nilT
  obtain⟨r,hr⟩:∃ r,r=fitsT t u:=⟨_,rfl⟩
  rw [← hr]
  obtain⟨ak,an,az⟩:=t
  obtain⟨bk,bn,bz⟩:=u
  obtain⟨W1,hW1⟩:∃ W1,W1=(w.alloc (.cells #[.int .u8 ak,.string an,.int .i64 az] 30)).alloc (.cells #[.int .u8 bk,.string bn,.int .i64 bz] 30):=⟨_,rfl⟩
  have hb1:Below w.heap.size w W1:=by rw [hW1];exact (below_box w _).alloc (by simp) _
  have hz1:W1.heap.size=w.heap.size+2:=by rw [hW1];simp
  have hO0:W1.heap[w.heap.size]? = some (.cells #[.int .u8 ak,.string an,.int .i64 az] 30 (0,0)):=by rw [hW1,Below.heap_alloc _ _ _ (by simp)];exact (MapKept.heap_alloc _ _).1
  have hO1:W1.heap[w.heap.size+1]? = some (.cells #[.int .u8 bk,.string bn,.int .i64 bz] 30 (0,0)):=by rw [hW1,show w.heap.size+1=(w.alloc (.cells #[.int .u8 ak,.string an,.int .i64 az] 30)).heap.size by simp];exact (MapKept.heap_alloc _ _).1
  obtain⟨a0,a1,a2⟩:=own3 hO0
  obtain⟨d0,d1,d2⟩:=own3 hO1
  have HB:=hid hb1
  have HW:=hid hW1
  have hz2:w.heap.size+2≤W1.heap.size:=by omega
  show Calls Tryz.prog 110 #[.agg #[.int .u8 ak,.string an,.int .i64 az],.agg #[.int .u8 bk,.string bn,.int .i64 bz]] w fun e w'=>e = .returned (.bool r)∧Below w.heap.size w w'
  by_cases hE:(⟨ak,an,az⟩:Ty)=⟨bk,bn,bz⟩
  · have HR:=hid (show r=true by rw [hr];unfold fitsT;simp [hE])
    have hq:∀ w,(binOp .eql 30 (.agg #[.int .u8 ak,.string an,.int .i64 az]) (.agg #[.int .u8 bk,.string bn,.int .i64 bz])).run Tryz.prog w = .ok (.bool true) w:=fun w=>by rw [← decide_eq_true hE];exact hq0 w
    clear hq0 hn0 hE hr hb1 hW1 hO0 hO1
    go_enter Tryz.func110,Tryz.ntmps110
    go_wp2_with fail
    rw [← HW.out]
    refine wp_region_held_drew (S:=SameTo (w.heap.size+2) W1) (by kernel_rfl) (SameTo.drew _ _) (fun hSw=>?_)
    refine wt (i:=0) (oi:={ dst:=some 5,op:=Op.load 30 (Operand.tmp 2),type:=30,pos := "exprs.go:14", after:=#[],guard:=none }) (v:=.agg #[.int .u8 ak,.string an,.int .i64 az]) (fun W hW=>?_) hSw ?_
    · have a0:=hW.cell (by dsimp only;omega) a0
      have a1:=hW.cell (by dsimp only;omega) a1
      have a2:=hW.cell (by dsimp only;omega) a2
      first|(go_simp;done)|rfl
    try simp only [Act.put,q1,q2,q3]
    refine wt (i:=1) (oi:={ dst:=some 6,op:=Op.load 30 (Operand.tmp 3),type:=30,pos := "exprs.go:14", after:=#[],guard:=none }) (v:=.agg #[.int .u8 bk,.string bn,.int .i64 bz]) (fun W hW=>?_) hSw ?_
    · have d0:=hW.cell (by dsimp only;omega) d0
      have d1:=hW.cell (by dsimp only;omega) d1
      have d2:=hW.cell (by dsimp only;omega) d2
      first|(go_simp;done)|rfl
    try simp only [Act.put,q1,q2,q3]
    refine wt (i:=2) (oi:={ dst:=some 7,op:=Op.binOp BinOp.eql 30 (Operand.tmp 5) (Operand.tmp 6) 30,type:=4,pos := "exprs.go:14", after:=#[gd 0,gd 1],guard:=none }) (v:=.bool true) (fun W hW=>?_) hSw ?_
    · first|(go_simp;done)|rfl
    try simp only [Act.put,q1,q2,q3]
    refine wt (i:=3) (oi:={ dst:=some 8,op:=Op.move (Operand.tmp 7),type:=4,pos := "exprs.go:14", after:=#[gd 2],guard:=none }) (v:=.bool true) (fun W hW=>?_) hSw ?_
    · first|(go_simp;done)|rfl
    try simp only [Act.put,q1,q2,q3]
    refine wpAnyH_take (i:=4) (oi:={ dst:=some 9,op:=Op.load 30 (Operand.tmp 2),type:=30,pos := "exprs.go:14", after:=#[{ on:=3,ground:=Ground.guard }],guard:=some (3,false) }) (v:=undef) rfl (by kernel_rfl) (by kernel_rfl) (by kernel_rfl) (fun _ _ _ h=>h) (Or.inr ⟨by rfl,rfl⟩) hSw ?_
    try simp only [Act.put,q1,q2,q3]
    refine wpAnyH_take (i:=5) (oi:={ dst:=some 10,op:=Op.call { callee:=Callee.value (Operand.func 112),args:=#[],argTypes:=#[] },type:=30,pos := "exprs.go:14", after:=#[gc 3,{ on:=3,ground:=Ground.guard }],guard:=some (3,false) }) (v:=undef) rfl (by kernel_rfl) (by kernel_rfl) (by kernel_rfl) (fun _ _ _ h=>h) (Or.inr ⟨by rfl,rfl⟩) hSw ?_
    try simp only [Act.put,q1,q2,q3]
    refine wpAnyH_take (i:=6) (oi:={ dst:=some 11,op:=Op.binOp BinOp.eql 30 (Operand.tmp 9) (Operand.tmp 10) 30,type:=4,pos := "exprs.go:14", after:=#[gd 4,gd 5,{ on:=3,ground:=Ground.guard }],guard:=some (3,false) }) (v:=undef) rfl (by kernel_rfl) (by kernel_rfl) (by kernel_rfl) (fun _ _ _ h=>h) (Or.inr ⟨by rfl,rfl⟩) hSw ?_
    try simp only [Act.put,q1,q2,q3]
    refine wpAnyH_take (i:=7) (oi:={ dst:=some 12,op:=Op.move (Operand.tmp 11),type:=4,pos := "exprs.go:14", after:=#[gd 6,gc 5,{ on:=3,ground:=Ground.guard }],guard:=some (3,false) }) (v:=undef) rfl (by kernel_rfl) (by kernel_rfl) (by kernel_rfl) (fun _ _ _ h=>h) (Or.inr ⟨by rfl,rfl⟩) hSw ?_
    try simp only [Act.put,q1,q2,q3]
    refine wpAnyH_take (i:=8) (oi:={ dst:=some 13,op:=Op.fieldAddr 30 (Operand.tmp 3) 0,type:=0,pos := "exprs.go:14", after:=#[{ on:=7,ground:=Ground.guard }],guard:=some (7,true) }) (v:=undef) rfl (by kernel_rfl) (by kernel_rfl) (by kernel_rfl) (fun _ _ _ h=>h) (Or.inr ⟨by rfl,rfl⟩) hSw ?_
    try simp only [Act.put,q1,q2,q3]
    refine wpAnyH_take (i:=9) (oi:={ dst:=some 14,op:=Op.load 28 (Operand.tmp 13),type:=28,pos := "exprs.go:14", after:=#[gd 8,{ on:=7,ground:=Ground.guard }],guard:=some (7,true) }) (v:=undef) rfl (by kernel_rfl) (by kernel_rfl) (by kernel_rfl) (fun _ _ _ h=>h) (Or.inr ⟨by rfl,rfl⟩) hSw ?_
    try simp only [Act.put,q1,q2,q3]
    refine wpAnyH_take (i:=10) (oi:={ dst:=some 15,op:=Op.binOp BinOp.eql 28 (Operand.tmp 14) (Operand.const (Value.int IntKind.u8 2)) 28,type:=4,pos := "exprs.go:14", after:=#[gd 9,{ on:=7,ground:=Ground.guard }],guard:=some (7,true) }) (v:=undef) rfl (by kernel_rfl) (by kernel_rfl) (by kernel_rfl) (fun _ _ _ h=>h) (Or.inr ⟨by rfl,rfl⟩) hSw ?_
    try simp only [Act.put,q1,q2,q3]
    refine wpAnyH_take (i:=11) (oi:={ dst:=some 16,op:=Op.move (Operand.tmp 15),type:=4,pos := "exprs.go:14", after:=#[gd 10,gc 7,{ on:=7,ground:=Ground.guard }],guard:=some (7,true) }) (v:=undef) rfl (by kernel_rfl) (by kernel_rfl) (by kernel_rfl) (fun _ _ _ h=>h) (Or.inr ⟨by rfl,rfl⟩) hSw ?_
    try simp only [Act.put,q1,q2,q3]
    refine wpAnyH_take (i:=12) (oi:={ dst:=some 17,op:=Op.fieldAddr 30 (Operand.tmp 3) 0,type:=0,pos := "exprs.go:14", after:=#[{ on:=11,ground:=Ground.guard }],guard:=some (11,false) }) (v:=undef) rfl (by kernel_rfl) (by kernel_rfl) (by kernel_rfl) (fun _ _ _ h=>h) (Or.inr ⟨by rfl,rfl⟩) hSw ?_
    try simp only [Act.put,q1,q2,q3]
    refine wpAnyH_take (i:=13) (oi:={ dst:=some 18,op:=Op.load 28 (Operand.tmp 17),type:=28,pos := "exprs.go:14", after:=#[gd 12,{ on:=11,ground:=Ground.guard }],guard:=some (11,false) }) (v:=undef) rfl (by kernel_rfl) (by kernel_rfl) (by kernel_rfl) (fun _ _ _ h=>h) (Or.inr ⟨by rfl,rfl⟩) hSw ?_
    try simp only [Act.put,q1,q2,q3]
    refine wpAnyH_take (i:=14) (oi:={ dst:=some 19,op:=Op.binOp BinOp.eql 28 (Operand.tmp 18) (Operand.const (Value.int IntKind.u8 3)) 28,type:=4,pos := "exprs.go:14", after:=#[gd 13,{ on:=11,ground:=Ground.guard }],guard:=some (11,false) }) (v:=undef) rfl (by kernel_rfl) (by kernel_rfl) (by kernel_rfl) (fun _ _ _ h=>h) (Or.inr ⟨by rfl,rfl⟩) hSw ?_
    try simp only [Act.put,q1,q2,q3]
    refine wpAnyH_take (i:=15) (oi:={ dst:=some 20,op:=Op.pick (Operand.tmp 16) (Operand.const (Value.bool true)) (Operand.tmp 19),type:=4,pos := "exprs.go:14", after:=#[gd 11,gd 14,{ on:=7,ground:=Ground.guard }],guard:=some (7,true) }) (v:=undef) rfl (by kernel_rfl) (by kernel_rfl) (by kernel_rfl) (fun _ _ _ h=>h) (Or.inr ⟨by rfl,rfl⟩) hSw ?_
    try simp only [Act.put,q1,q2,q3]
    refine wpAnyH_take (i:=16) (oi:={ dst:=some 21,op:=Op.pick (Operand.tmp 12) (Operand.tmp 20) (Operand.const (Value.bool false)),type:=4,pos := "exprs.go:14", after:=#[gd 7,gd 15,{ on:=3,ground:=Ground.guard }],guard:=some (3,false) }) (v:=undef) rfl (by kernel_rfl) (by kernel_rfl) (by kernel_rfl) (fun _ _ _ h=>h) (Or.inr ⟨by rfl,rfl⟩) hSw ?_
    try simp only [Act.put,q1,q2,q3]
    refine wt (i:=17) (oi:={ dst:=some 22,op:=Op.pick (Operand.tmp 8) (Operand.const (Value.bool true)) (Operand.tmp 21),type:=4,pos := "exprs.go:14", after:=#[gd 3,gd 16],guard:=none }) (v:=.bool true) (fun W hW=>?_) hSw ?_
    · first|(go_simp;done)|rfl
    try simp only [Act.put,q1,q2,q3]
    refine wt (i:=18) (oi:={ dst:=some 4,op:=Op.assign (Operand.tmp 22),type:=4,pos := "exprs.go:14", after:=#[gd 17,gc 11,gp 0,gp 1,gp 2,gp 3,gp 4,gp 5,gp 6,gp 7,gp 8,gp 9,gp 10,gp 11,gp 12,gp 13,gp 14,gp 15,gp 16,gp 17],guard:=none }) (v:=.bool true) (fun W hW=>?_) hSw ?_
    · first|(go_simp;done)|rfl
    try simp only [Act.put,q1,q2,q3]
    refine wpAnyH_done (by kernel_rfl) ?_ _
    go_wp2_with fail
    go_ret
    exact⟨ret_bool HR.out.symm,HB.out.drew⟩
  have hq:∀ w,(binOp .eql 30 (.agg #[.int .u8 ak,.string an,.int .i64 az]) (.agg #[.int .u8 bk,.string bn,.int .i64 bz])).run Tryz.prog w = .ok (.bool false) w:=fun w=>by rw [← decide_eq_false hE];exact hq0 w
  by_cases hN:(⟨ak,an,az⟩:Ty)=nilT
  · have hn:∀ w,(binOp .eql 30 (.agg #[.int .u8 ak,.string an,.int .i64 az]) (.agg #[.int .u8 4,.string ⟨#[]⟩,.int .i64 0])).run Tryz.prog w = .ok (.bool true) w:=fun w=>by rw [← decide_eq_true hN];exact hn0 w
    by_cases h2:bk=2
    · have HR:=hid (show r=true by rw [hr];unfold fitsT;simp [hN,h2])
      have hk:(bk == 2)=true:=beq_iff_eq.2 h2
      clear hq0 hn0 hE hN hr hb1 hW1 hO0 hO1 h2
      go_enter Tryz.func110,Tryz.ntmps110
      go_wp2_with fail
      rw [← HW.out]
      refine wp_region_held_drew (S:=SameTo (w.heap.size+2) W1) (by kernel_rfl) (SameTo.drew _ _) (fun hSw=>?_)
      refine wt (i:=0) (oi:={ dst:=some 5,op:=Op.load 30 (Operand.tmp 2),type:=30,pos := "exprs.go:14", after:=#[],guard:=none }) (v:=.agg #[.int .u8 ak,.string an,.int .i64 az]) (fun W hW=>?_) hSw ?_
      · have a0:=hW.cell (by dsimp only;omega) a0
        have a1:=hW.cell (by dsimp only;omega) a1
        have a2:=hW.cell (by dsimp only;omega) a2
        first|(go_simp;done)|rfl
      try simp only [Act.put,q1,q2,q3]
      refine wt (i:=1) (oi:={ dst:=some 6,op:=Op.load 30 (Operand.tmp 3),type:=30,pos := "exprs.go:14", after:=#[],guard:=none }) (v:=.agg #[.int .u8 bk,.string bn,.int .i64 bz]) (fun W hW=>?_) hSw ?_
      · have d0:=hW.cell (by dsimp only;omega) d0
        have d1:=hW.cell (by dsimp only;omega) d1
        have d2:=hW.cell (by dsimp only;omega) d2
        first|(go_simp;done)|rfl
      try simp only [Act.put,q1,q2,q3]
      refine wt (i:=2) (oi:={ dst:=some 7,op:=Op.binOp BinOp.eql 30 (Operand.tmp 5) (Operand.tmp 6) 30,type:=4,pos := "exprs.go:14", after:=#[gd 0,gd 1],guard:=none }) (v:=.bool false) (fun W hW=>?_) hSw ?_
      · first|(go_simp;done)|rfl
      try simp only [Act.put,q1,q2,q3]
      refine wt (i:=3) (oi:={ dst:=some 8,op:=Op.move (Operand.tmp 7),type:=4,pos := "exprs.go:14", after:=#[gd 2],guard:=none }) (v:=.bool false) (fun W hW=>?_) hSw ?_
      · first|(go_simp;done)|rfl
      try simp only [Act.put,q1,q2,q3]
      refine wt (i:=4) (oi:={ dst:=some 9,op:=Op.load 30 (Operand.tmp 2),type:=30,pos := "exprs.go:14", after:=#[{ on:=3,ground:=Ground.guard }],guard:=some (3,false) }) (v:=.agg #[.int .u8 ak,.string an,.int .i64 az]) (fun W hW=>?_) hSw ?_
      · have a0:=hW.cell (by dsimp only;omega) a0
        have a1:=hW.cell (by dsimp only;omega) a1
        have a2:=hW.cell (by dsimp only;omega) a2
        first|(go_simp;done)|rfl
      try simp only [Act.put,q1,q2,q3]
      refine wpAnyH_ready (rs:=[5]) (by kernel_rfl) (by simp) ?_
      refine AllReadyH.cons (o:={ dst:=some 10,op:=Op.call { callee:=Callee.value (Operand.func 112),args:=#[],argTypes:=#[] },type:=30,pos := "exprs.go:14", after:=#[gc 3,{ on:=3,ground:=Ground.guard }],guard:=some (3,false) }) rfl (fun K hK=>?_) AllReadyH.nil
      rw [if_pos (by rfl)]
      clear hSw
      go_simp
      refine (niltype_any _).mono ?_;rintro e w2 ⟨rfl,hb2⟩
      have HB2:=hid (HB.out.trans ((Below.drew (Below.refl _ _)).trans hb2 |>.mono (by show w.heap.size≤W1.heap.size;omega)))
      have HS2:=hid (show SameTo (w.heap.size+2) W1 w2 from (SameTo.drew _ _).trans (SameTo.of (hb2.mono (by show _≤W1.heap.size;omega))))
      clear hb2
      refine hK.out _ _ (HS2.out) (fun hSw=>?_)
      clear hK K
      try simp only [Act.put,q1,q2,q3]
      refine wt (i:=6) (oi:={ dst:=some 11,op:=Op.binOp BinOp.eql 30 (Operand.tmp 9) (Operand.tmp 10) 30,type:=4,pos := "exprs.go:14", after:=#[gd 4,gd 5,{ on:=3,ground:=Ground.guard }],guard:=some (3,false) }) (v:=.bool true) (fun W hW=>?_) hSw ?_
      · first|(go_simp;done)|rfl
      try simp only [Act.put,q1,q2,q3]
      refine wt (i:=7) (oi:={ dst:=some 12,op:=Op.move (Operand.tmp 11),type:=4,pos := "exprs.go:14", after:=#[gd 6,gc 5,{ on:=3,ground:=Ground.guard }],guard:=some (3,false) }) (v:=.bool true) (fun W hW=>?_) hSw ?_
      · first|(go_simp;done)|rfl
      try simp only [Act.put,q1,q2,q3]
      refine wt (i:=8) (oi:={ dst:=some 13,op:=Op.fieldAddr 30 (Operand.tmp 3) 0,type:=0,pos := "exprs.go:14", after:=#[{ on:=7,ground:=Ground.guard }],guard:=some (7,true) }) (v:=.pointer (some ⟨w.heap.size+1,0,none⟩)) (fun W hW=>?_) hSw ?_
      · first|(go_simp;done)|rfl
      try simp only [Act.put,q1,q2,q3]
      refine wt (i:=9) (oi:={ dst:=some 14,op:=Op.load 28 (Operand.tmp 13),type:=28,pos := "exprs.go:14", after:=#[gd 8,{ on:=7,ground:=Ground.guard }],guard:=some (7,true) }) (v:=.int .u8 bk) (fun W hW=>?_) hSw ?_
      · have d0:=hW.cell (by dsimp only;omega) d0
        first|(go_simp;done)|rfl
      try simp only [Act.put,q1,q2,q3]
      refine wt (i:=10) (oi:={ dst:=some 15,op:=Op.binOp BinOp.eql 28 (Operand.tmp 14) (Operand.const (Value.int IntKind.u8 2)) 28,type:=4,pos := "exprs.go:14", after:=#[gd 9,{ on:=7,ground:=Ground.guard }],guard:=some (7,true) }) (v:=.bool true) (fun W hW=>?_) hSw ?_
      · first|(go_simp;done)|rfl
      try simp only [Act.put,q1,q2,q3]
      refine wt (i:=11) (oi:={ dst:=some 16,op:=Op.move (Operand.tmp 15),type:=4,pos := "exprs.go:14", after:=#[gd 10,gc 7,{ on:=7,ground:=Ground.guard }],guard:=some (7,true) }) (v:=.bool true) (fun W hW=>?_) hSw ?_
      · first|(go_simp;done)|rfl
      try simp only [Act.put,q1,q2,q3]
      refine wpAnyH_take (i:=12) (oi:={ dst:=some 17,op:=Op.fieldAddr 30 (Operand.tmp 3) 0,type:=0,pos := "exprs.go:14", after:=#[{ on:=11,ground:=Ground.guard }],guard:=some (11,false) }) (v:=undef) rfl (by kernel_rfl) (by kernel_rfl) (by kernel_rfl) (fun _ _ _ h=>h) (Or.inr ⟨by rfl,rfl⟩) hSw ?_
      try simp only [Act.put,q1,q2,q3]
      refine wpAnyH_take (i:=13) (oi:={ dst:=some 18,op:=Op.load 28 (Operand.tmp 17),type:=28,pos := "exprs.go:14", after:=#[gd 12,{ on:=11,ground:=Ground.guard }],guard:=some (11,false) }) (v:=undef) rfl (by kernel_rfl) (by kernel_rfl) (by kernel_rfl) (fun _ _ _ h=>h) (Or.inr ⟨by rfl,rfl⟩) hSw ?_
      try simp only [Act.put,q1,q2,q3]
      refine wpAnyH_take (i:=14) (oi:={ dst:=some 19,op:=Op.binOp BinOp.eql 28 (Operand.tmp 18) (Operand.const (Value.int IntKind.u8 3)) 28,type:=4,pos := "exprs.go:14", after:=#[gd 13,{ on:=11,ground:=Ground.guard }],guard:=some (11,false) }) (v:=undef) rfl (by kernel_rfl) (by kernel_rfl) (by kernel_rfl) (fun _ _ _ h=>h) (Or.inr ⟨by rfl,rfl⟩) hSw ?_
      try simp only [Act.put,q1,q2,q3]
      refine wt (i:=15) (oi:={ dst:=some 20,op:=Op.pick (Operand.tmp 16) (Operand.const (Value.bool true)) (Operand.tmp 19),type:=4,pos := "exprs.go:14", after:=#[gd 11,gd 14,{ on:=7,ground:=Ground.guard }],guard:=some (7,true) }) (v:=.bool true) (fun W hW=>?_) hSw ?_
      · first|(go_simp;done)|rfl
      try simp only [Act.put,q1,q2,q3]
      refine wt (i:=16) (oi:={ dst:=some 21,op:=Op.pick (Operand.tmp 12) (Operand.tmp 20) (Operand.const (Value.bool false)),type:=4,pos := "exprs.go:14", after:=#[gd 7,gd 15,{ on:=3,ground:=Ground.guard }],guard:=some (3,false) }) (v:=.bool true) (fun W hW=>?_) hSw ?_
      · first|(go_simp;done)|rfl
      try simp only [Act.put,q1,q2,q3]
      refine wt (i:=17) (oi:={ dst:=some 22,op:=Op.pick (Operand.tmp 8) (Operand.const (Value.bool true)) (Operand.tmp 21),type:=4,pos := "exprs.go:14", after:=#[gd 3,gd 16],guard:=none }) (v:=.bool true) (fun W hW=>?_) hSw ?_
      · first|(go_simp;done)|rfl
      try simp only [Act.put,q1,q2,q3]
      refine wt (i:=18) (oi:={ dst:=some 4,op:=Op.assign (Operand.tmp 22),type:=4,pos := "exprs.go:14", after:=#[gd 17,gc 11,gp 0,gp 1,gp 2,gp 3,gp 4,gp 5,gp 6,gp 7,gp 8,gp 9,gp 10,gp 11,gp 12,gp 13,gp 14,gp 15,gp 16,gp 17],guard:=none }) (v:=.bool true) (fun W hW=>?_) hSw ?_
      · first|(go_simp;done)|rfl
      try simp only [Act.put,q1,q2,q3]
      refine wpAnyH_done (by kernel_rfl) ?_ _
      go_wp2_with fail
      go_ret
      exact⟨ret_bool HR.out.symm,HB2.out⟩
    · have HR:=hid (show r=(bk == 3) by
        rw [hr];unfold fitsT
        rw [decide_eq_false hE,decide_eq_true hN]
        simp [h2];rfl)
      have hk:(bk == 2)=false:=beq_eq_false_iff_ne.2 h2
      clear hq0 hn0 hE hN hr hb1 hW1 hO0 hO1 h2
      go_enter Tryz.func110,Tryz.ntmps110
      go_wp2_with fail
      rw [← HW.out]
      refine wp_region_held_drew (S:=SameTo (w.heap.size+2) W1) (by kernel_rfl) (SameTo.drew _ _) (fun hSw=>?_)
      refine wt (i:=0) (oi:={ dst:=some 5,op:=Op.load 30 (Operand.tmp 2),type:=30,pos := "exprs.go:14", after:=#[],guard:=none }) (v:=.agg #[.int .u8 ak,.string an,.int .i64 az]) (fun W hW=>?_) hSw ?_
      · have a0:=hW.cell (by dsimp only;omega) a0
        have a1:=hW.cell (by dsimp only;omega) a1
        have a2:=hW.cell (by dsimp only;omega) a2
        first|(go_simp;done)|rfl
      try simp only [Act.put,q1,q2,q3]
      refine wt (i:=1) (oi:={ dst:=some 6,op:=Op.load 30 (Operand.tmp 3),type:=30,pos := "exprs.go:14", after:=#[],guard:=none }) (v:=.agg #[.int .u8 bk,.string bn,.int .i64 bz]) (fun W hW=>?_) hSw ?_
      · have d0:=hW.cell (by dsimp only;omega) d0
        have d1:=hW.cell (by dsimp only;omega) d1
        have d2:=hW.cell (by dsimp only;omega) d2
        first|(go_simp;done)|rfl
      try simp only [Act.put,q1,q2,q3]
      refine wt (i:=2) (oi:={ dst:=some 7,op:=Op.binOp BinOp.eql 30 (Operand.tmp 5) (Operand.tmp 6) 30,type:=4,pos := "exprs.go:14", after:=#[gd 0,gd 1],guard:=none }) (v:=.bool false) (fun W hW=>?_) hSw ?_
      · first|(go_simp;done)|rfl
      try simp only [Act.put,q1,q2,q3]
      refine wt (i:=3) (oi:={ dst:=some 8,op:=Op.move (Operand.tmp 7),type:=4,pos := "exprs.go:14", after:=#[gd 2],guard:=none }) (v:=.bool false) (fun W hW=>?_) hSw ?_
      · first|(go_simp;done)|rfl
      try simp only [Act.put,q1,q2,q3]
      refine wt (i:=4) (oi:={ dst:=some 9,op:=Op.load 30 (Operand.tmp 2),type:=30,pos := "exprs.go:14", after:=#[{ on:=3,ground:=Ground.guard }],guard:=some (3,false) }) (v:=.agg #[.int .u8 ak,.string an,.int .i64 az]) (fun W hW=>?_) hSw ?_
      · have a0:=hW.cell (by dsimp only;omega) a0
        have a1:=hW.cell (by dsimp only;omega) a1
        have a2:=hW.cell (by dsimp only;omega) a2
        first|(go_simp;done)|rfl
      try simp only [Act.put,q1,q2,q3]
      refine wpAnyH_ready (rs:=[5]) (by kernel_rfl) (by simp) ?_
      refine AllReadyH.cons (o:={ dst:=some 10,op:=Op.call { callee:=Callee.value (Operand.func 112),args:=#[],argTypes:=#[] },type:=30,pos := "exprs.go:14", after:=#[gc 3,{ on:=3,ground:=Ground.guard }],guard:=some (3,false) }) rfl (fun K hK=>?_) AllReadyH.nil
      rw [if_pos (by rfl)]
      clear hSw
      go_simp
      refine (niltype_any _).mono ?_;rintro e w2 ⟨rfl,hb2⟩
      have HB2:=hid (HB.out.trans ((Below.drew (Below.refl _ _)).trans hb2 |>.mono (by show w.heap.size≤W1.heap.size;omega)))
      have HS2:=hid (show SameTo (w.heap.size+2) W1 w2 from (SameTo.drew _ _).trans (SameTo.of (hb2.mono (by show _≤W1.heap.size;omega))))
      clear hb2
      refine hK.out _ _ (HS2.out) (fun hSw=>?_)
      clear hK K
      try simp only [Act.put,q1,q2,q3]
      refine wt (i:=6) (oi:={ dst:=some 11,op:=Op.binOp BinOp.eql 30 (Operand.tmp 9) (Operand.tmp 10) 30,type:=4,pos := "exprs.go:14", after:=#[gd 4,gd 5,{ on:=3,ground:=Ground.guard }],guard:=some (3,false) }) (v:=.bool true) (fun W hW=>?_) hSw ?_
      · first|(go_simp;done)|rfl
      try simp only [Act.put,q1,q2,q3]
      refine wt (i:=7) (oi:={ dst:=some 12,op:=Op.move (Operand.tmp 11),type:=4,pos := "exprs.go:14", after:=#[gd 6,gc 5,{ on:=3,ground:=Ground.guard }],guard:=some (3,false) }) (v:=.bool true) (fun W hW=>?_) hSw ?_
      · first|(go_simp;done)|rfl
      try simp only [Act.put,q1,q2,q3]
      refine wt (i:=8) (oi:={ dst:=some 13,op:=Op.fieldAddr 30 (Operand.tmp 3) 0,type:=0,pos := "exprs.go:14", after:=#[{ on:=7,ground:=Ground.guard }],guard:=some (7,true) }) (v:=.pointer (some ⟨w.heap.size+1,0,none⟩)) (fun W hW=>?_) hSw ?_
      · first|(go_simp;done)|rfl
      try simp only [Act.put,q1,q2,q3]
      refine wt (i:=9) (oi:={ dst:=some 14,op:=Op.load 28 (Operand.tmp 13),type:=28,pos := "exprs.go:14", after:=#[gd 8,{ on:=7,ground:=Ground.guard }],guard:=some (7,true) }) (v:=.int .u8 bk) (fun W hW=>?_) hSw ?_
      · have d0:=hW.cell (by dsimp only;omega) d0
        first|(go_simp;done)|rfl
      try simp only [Act.put,q1,q2,q3]
      refine wt (i:=10) (oi:={ dst:=some 15,op:=Op.binOp BinOp.eql 28 (Operand.tmp 14) (Operand.const (Value.int IntKind.u8 2)) 28,type:=4,pos := "exprs.go:14", after:=#[gd 9,{ on:=7,ground:=Ground.guard }],guard:=some (7,true) }) (v:=.bool false) (fun W hW=>?_) hSw ?_
      · first|(go_simp;done)|rfl
      try simp only [Act.put,q1,q2,q3]
      refine wt (i:=11) (oi:={ dst:=some 16,op:=Op.move (Operand.tmp 15),type:=4,pos := "exprs.go:14", after:=#[gd 10,gc 7,{ on:=7,ground:=Ground.guard }],guard:=some (7,true) }) (v:=.bool false) (fun W hW=>?_) hSw ?_
      · first|(go_simp;done)|rfl
      try simp only [Act.put,q1,q2,q3]
      refine wt (i:=12) (oi:={ dst:=some 17,op:=Op.fieldAddr 30 (Operand.tmp 3) 0,type:=0,pos := "exprs.go:14", after:=#[{ on:=11,ground:=Ground.guard }],guard:=some (11,false) }) (v:=.pointer (some ⟨w.heap.size+1,0,none⟩)) (fun W hW=>?_) hSw ?_
      · first|(go_simp;done)|rfl
      try simp only [Act.put,q1,q2,q3]
      refine wt (i:=13) (oi:={ dst:=some 18,op:=Op.load 28 (Operand.tmp 17),type:=28,pos := "exprs.go:14", after:=#[gd 12,{ on:=11,ground:=Ground.guard }],guard:=some (11,false) }) (v:=.int .u8 bk) (fun W hW=>?_) hSw ?_
      · have d0:=hW.cell (by dsimp only;omega) d0
        first|(go_simp;done)|rfl
      try simp only [Act.put,q1,q2,q3]
      refine wt (i:=14) (oi:={ dst:=some 19,op:=Op.binOp BinOp.eql 28 (Operand.tmp 18) (Operand.const (Value.int IntKind.u8 3)) 28,type:=4,pos := "exprs.go:14", after:=#[gd 13,{ on:=11,ground:=Ground.guard }],guard:=some (11,false) }) (v:=.bool (bk == 3)) (fun W hW=>?_) hSw ?_
      · first|(go_simp;done)|rfl
      try simp only [Act.put,q1,q2,q3]
      refine wt (i:=15) (oi:={ dst:=some 20,op:=Op.pick (Operand.tmp 16) (Operand.const (Value.bool true)) (Operand.tmp 19),type:=4,pos := "exprs.go:14", after:=#[gd 11,gd 14,{ on:=7,ground:=Ground.guard }],guard:=some (7,true) }) (v:=.bool (bk == 3)) (fun W hW=>?_) hSw ?_
      · first|(go_simp;done)|rfl
      try simp only [Act.put,q1,q2,q3]
      refine wt (i:=16) (oi:={ dst:=some 21,op:=Op.pick (Operand.tmp 12) (Operand.tmp 20) (Operand.const (Value.bool false)),type:=4,pos := "exprs.go:14", after:=#[gd 7,gd 15,{ on:=3,ground:=Ground.guard }],guard:=some (3,false) }) (v:=.bool (bk == 3)) (fun W hW=>?_) hSw ?_
      · first|(go_simp;done)|rfl
      try simp only [Act.put,q1,q2,q3]
      refine wt (i:=17) (oi:={ dst:=some 22,op:=Op.pick (Operand.tmp 8) (Operand.const (Value.bool true)) (Operand.tmp 21),type:=4,pos := "exprs.go:14", after:=#[gd 3,gd 16],guard:=none }) (v:=.bool (bk == 3)) (fun W hW=>?_) hSw ?_
      · first|(go_simp;done)|rfl
      try simp only [Act.put,q1,q2,q3]
      refine wt (i:=18) (oi:={ dst:=some 4,op:=Op.assign (Operand.tmp 22),type:=4,pos := "exprs.go:14", after:=#[gd 17,gc 11,gp 0,gp 1,gp 2,gp 3,gp 4,gp 5,gp 6,gp 7,gp 8,gp 9,gp 10,gp 11,gp 12,gp 13,gp 14,gp 15,gp 16,gp 17],guard:=none }) (v:=.bool (bk == 3)) (fun W hW=>?_) hSw ?_
      · first|(go_simp;done)|rfl
      try simp only [Act.put,q1,q2,q3]
      refine wpAnyH_done (by kernel_rfl) ?_ _
      go_wp2_with fail
      go_ret
      exact⟨ret_bool HR.out.symm,HB2.out⟩
  · have hn:∀ w,(binOp .eql 30 (.agg #[.int .u8 ak,.string an,.int .i64 az]) (.agg #[.int .u8 4,.string ⟨#[]⟩,.int .i64 0])).run Tryz.prog w = .ok (.bool false) w:=fun w=>by rw [← decide_eq_false hN];exact hn0 w
    have HR:=hid (show r=false by rw [hr];unfold fitsT;rw [decide_eq_false hE,decide_eq_false hN];rfl)
    clear hq0 hn0 hE hN hr hb1 hW1 hO0 hO1
    go_enter Tryz.func110,Tryz.ntmps110
    go_wp2_with fail
    rw [← HW.out]
    refine wp_region_held_drew (S:=SameTo (w.heap.size+2) W1) (by kernel_rfl) (SameTo.drew _ _) (fun hSw=>?_)
    refine wt (i:=0) (oi:={ dst:=some 5,op:=Op.load 30 (Operand.tmp 2),type:=30,pos := "exprs.go:14", after:=#[],guard:=none }) (v:=.agg #[.int .u8 ak,.string an,.int .i64 az]) (fun W hW=>?_) hSw ?_
    · have a0:=hW.cell (by dsimp only;omega) a0
      have a1:=hW.cell (by dsimp only;omega) a1
      have a2:=hW.cell (by dsimp only;omega) a2
      first|(go_simp;done)|rfl
    try simp only [Act.put,q1,q2,q3]
    refine wt (i:=1) (oi:={ dst:=some 6,op:=Op.load 30 (Operand.tmp 3),type:=30,pos := "exprs.go:14", after:=#[],guard:=none }) (v:=.agg #[.int .u8 bk,.string bn,.int .i64 bz]) (fun W hW=>?_) hSw ?_
    · have d0:=hW.cell (by dsimp only;omega) d0
      have d1:=hW.cell (by dsimp only;omega) d1
      have d2:=hW.cell (by dsimp only;omega) d2
      first|(go_simp;done)|rfl
    try simp only [Act.put,q1,q2,q3]
    refine wt (i:=2) (oi:={ dst:=some 7,op:=Op.binOp BinOp.eql 30 (Operand.tmp 5) (Operand.tmp 6) 30,type:=4,pos := "exprs.go:14", after:=#[gd 0,gd 1],guard:=none }) (v:=.bool false) (fun W hW=>?_) hSw ?_
    · first|(go_simp;done)|rfl
    try simp only [Act.put,q1,q2,q3]
    refine wt (i:=3) (oi:={ dst:=some 8,op:=Op.move (Operand.tmp 7),type:=4,pos := "exprs.go:14", after:=#[gd 2],guard:=none }) (v:=.bool false) (fun W hW=>?_) hSw ?_
    · first|(go_simp;done)|rfl
    try simp only [Act.put,q1,q2,q3]
    refine wt (i:=4) (oi:={ dst:=some 9,op:=Op.load 30 (Operand.tmp 2),type:=30,pos := "exprs.go:14", after:=#[{ on:=3,ground:=Ground.guard }],guard:=some (3,false) }) (v:=.agg #[.int .u8 ak,.string an,.int .i64 az]) (fun W hW=>?_) hSw ?_
    · have a0:=hW.cell (by dsimp only;omega) a0
      have a1:=hW.cell (by dsimp only;omega) a1
      have a2:=hW.cell (by dsimp only;omega) a2
      first|(go_simp;done)|rfl
    try simp only [Act.put,q1,q2,q3]
    refine wpAnyH_ready (rs:=[5]) (by kernel_rfl) (by simp) ?_
    refine AllReadyH.cons (o:={ dst:=some 10,op:=Op.call { callee:=Callee.value (Operand.func 112),args:=#[],argTypes:=#[] },type:=30,pos := "exprs.go:14", after:=#[gc 3,{ on:=3,ground:=Ground.guard }],guard:=some (3,false) }) rfl (fun K hK=>?_) AllReadyH.nil
    rw [if_pos (by rfl)]
    clear hSw
    go_simp
    refine (niltype_any _).mono ?_;rintro e w2 ⟨rfl,hb2⟩
    have HB2:=hid (HB.out.trans ((Below.drew (Below.refl _ _)).trans hb2 |>.mono (by show w.heap.size≤W1.heap.size;omega)))
    have HS2:=hid (show SameTo (w.heap.size+2) W1 w2 from (SameTo.drew _ _).trans (SameTo.of (hb2.mono (by show _≤W1.heap.size;omega))))
    clear hb2
    refine hK.out _ _ (HS2.out) (fun hSw=>?_)
    clear hK K
    try simp only [Act.put,q1,q2,q3]
    refine wt (i:=6) (oi:={ dst:=some 11,op:=Op.binOp BinOp.eql 30 (Operand.tmp 9) (Operand.tmp 10) 30,type:=4,pos := "exprs.go:14", after:=#[gd 4,gd 5,{ on:=3,ground:=Ground.guard }],guard:=some (3,false) }) (v:=.bool false) (fun W hW=>?_) hSw ?_
    · first|(go_simp;done)|rfl
    try simp only [Act.put,q1,q2,q3]
    refine wt (i:=7) (oi:={ dst:=some 12,op:=Op.move (Operand.tmp 11),type:=4,pos := "exprs.go:14", after:=#[gd 6,gc 5,{ on:=3,ground:=Ground.guard }],guard:=some (3,false) }) (v:=.bool false) (fun W hW=>?_) hSw ?_
    · first|(go_simp;done)|rfl
    try simp only [Act.put,q1,q2,q3]
    refine wpAnyH_take (i:=8) (oi:={ dst:=some 13,op:=Op.fieldAddr 30 (Operand.tmp 3) 0,type:=0,pos := "exprs.go:14", after:=#[{ on:=7,ground:=Ground.guard }],guard:=some (7,true) }) (v:=undef) rfl (by kernel_rfl) (by kernel_rfl) (by kernel_rfl) (fun _ _ _ h=>h) (Or.inr ⟨by rfl,rfl⟩) hSw ?_
    try simp only [Act.put,q1,q2,q3]
    refine wpAnyH_take (i:=9) (oi:={ dst:=some 14,op:=Op.load 28 (Operand.tmp 13),type:=28,pos := "exprs.go:14", after:=#[gd 8,{ on:=7,ground:=Ground.guard }],guard:=some (7,true) }) (v:=undef) rfl (by kernel_rfl) (by kernel_rfl) (by kernel_rfl) (fun _ _ _ h=>h) (Or.inr ⟨by rfl,rfl⟩) hSw ?_
    try simp only [Act.put,q1,q2,q3]
    refine wpAnyH_take (i:=10) (oi:={ dst:=some 15,op:=Op.binOp BinOp.eql 28 (Operand.tmp 14) (Operand.const (Value.int IntKind.u8 2)) 28,type:=4,pos := "exprs.go:14", after:=#[gd 9,{ on:=7,ground:=Ground.guard }],guard:=some (7,true) }) (v:=undef) rfl (by kernel_rfl) (by kernel_rfl) (by kernel_rfl) (fun _ _ _ h=>h) (Or.inr ⟨by rfl,rfl⟩) hSw ?_
    try simp only [Act.put,q1,q2,q3]
    refine wpAnyH_take (i:=11) (oi:={ dst:=some 16,op:=Op.move (Operand.tmp 15),type:=4,pos := "exprs.go:14", after:=#[gd 10,gc 7,{ on:=7,ground:=Ground.guard }],guard:=some (7,true) }) (v:=undef) rfl (by kernel_rfl) (by kernel_rfl) (by kernel_rfl) (fun _ _ _ h=>h) (Or.inr ⟨by rfl,rfl⟩) hSw ?_
    try simp only [Act.put,q1,q2,q3]
    refine wpAnyH_take (i:=12) (oi:={ dst:=some 17,op:=Op.fieldAddr 30 (Operand.tmp 3) 0,type:=0,pos := "exprs.go:14", after:=#[{ on:=11,ground:=Ground.guard }],guard:=some (11,false) }) (v:=undef) rfl (by kernel_rfl) (by kernel_rfl) (by kernel_rfl) (fun _ _ _ h=>h) (Or.inr ⟨by rfl,rfl⟩) hSw ?_
    try simp only [Act.put,q1,q2,q3]
    refine wpAnyH_take (i:=13) (oi:={ dst:=some 18,op:=Op.load 28 (Operand.tmp 17),type:=28,pos := "exprs.go:14", after:=#[gd 12,{ on:=11,ground:=Ground.guard }],guard:=some (11,false) }) (v:=undef) rfl (by kernel_rfl) (by kernel_rfl) (by kernel_rfl) (fun _ _ _ h=>h) (Or.inr ⟨by rfl,rfl⟩) hSw ?_
    try simp only [Act.put,q1,q2,q3]
    refine wpAnyH_take (i:=14) (oi:={ dst:=some 19,op:=Op.binOp BinOp.eql 28 (Operand.tmp 18) (Operand.const (Value.int IntKind.u8 3)) 28,type:=4,pos := "exprs.go:14", after:=#[gd 13,{ on:=11,ground:=Ground.guard }],guard:=some (11,false) }) (v:=undef) rfl (by kernel_rfl) (by kernel_rfl) (by kernel_rfl) (fun _ _ _ h=>h) (Or.inr ⟨by rfl,rfl⟩) hSw ?_
    try simp only [Act.put,q1,q2,q3]
    refine wpAnyH_take (i:=15) (oi:={ dst:=some 20,op:=Op.pick (Operand.tmp 16) (Operand.const (Value.bool true)) (Operand.tmp 19),type:=4,pos := "exprs.go:14", after:=#[gd 11,gd 14,{ on:=7,ground:=Ground.guard }],guard:=some (7,true) }) (v:=undef) rfl (by kernel_rfl) (by kernel_rfl) (by kernel_rfl) (fun _ _ _ h=>h) (Or.inr ⟨by rfl,rfl⟩) hSw ?_
    try simp only [Act.put,q1,q2,q3]
    refine wt (i:=16) (oi:={ dst:=some 21,op:=Op.pick (Operand.tmp 12) (Operand.tmp 20) (Operand.const (Value.bool false)),type:=4,pos := "exprs.go:14", after:=#[gd 7,gd 15,{ on:=3,ground:=Ground.guard }],guard:=some (3,false) }) (v:=.bool false) (fun W hW=>?_) hSw ?_
    · first|(go_simp;done)|rfl
    try simp only [Act.put,q1,q2,q3]
    refine wt (i:=17) (oi:={ dst:=some 22,op:=Op.pick (Operand.tmp 8) (Operand.const (Value.bool true)) (Operand.tmp 21),type:=4,pos := "exprs.go:14", after:=#[gd 3,gd 16],guard:=none }) (v:=.bool false) (fun W hW=>?_) hSw ?_
    · first|(go_simp;done)|rfl
    try simp only [Act.put,q1,q2,q3]
    refine wt (i:=18) (oi:={ dst:=some 4,op:=Op.assign (Operand.tmp 22),type:=4,pos := "exprs.go:14", after:=#[gd 17,gc 11,gp 0,gp 1,gp 2,gp 3,gp 4,gp 5,gp 6,gp 7,gp 8,gp 9,gp 10,gp 11,gp 12,gp 13,gp 14,gp 15,gp 16,gp 17],guard:=none }) (v:=.bool false) (fun W hW=>?_) hSw ?_
    · first|(go_simp;done)|rfl
    try simp only [Act.put,q1,q2,q3]
    refine wpAnyH_done (by kernel_rfl) ?_ _
    go_wp2_with fail
    go_ret
    exact⟨ret_bool HR.out.symm,HB2.out⟩
theorem fit_any (c:Nat) (e:En) (tv:Value) (p:Int) (res t u:Ty) (w:World) (h:Tk c e tv p res w) :
    Calls Tryz.prog 99 #[.pointer (some ⟨c,0,none⟩),t.val,u.val] w fun e' w'=>e'=askE p (if fitsT t u=true then 0 else 10)∧Below w.heap.size w w':=by
  have hlt:=h.lt
  obtain⟨K,⟨-,-,-,-,-,-,-,-,q8,-,-,-⟩,-⟩:=h.cells
  have HF:=hid (fun w=>fits_any t u w)
  obtain⟨r,hr⟩:∃ r,r=fitsT t u:=⟨_,rfl⟩
  rw [← hr] at HF ⊢
  obtain⟨ak,an,az⟩:=t
  obtain⟨bk,bn,bz⟩:=u
  obtain⟨W1,hW1⟩:∃ W1,W1=(w.alloc (.cells #[.int .u8 ak,.string an,.int .i64 az] 30)).alloc (.cells #[.int .u8 bk,.string bn,.int .i64 bz] 30):=⟨_,rfl⟩
  have hb1:Below w.heap.size w W1:=by rw [hW1];exact (below_box w _).alloc (by simp) _
  have HB:=hid hb1
  have HW:=hid hW1
  have HQ8:=hid (show W1.cell? ⟨c,8,none⟩ = some (.int .i64 p) by rw [hb1.cell (p:=⟨c,8,none⟩) hlt];exact q8)
  have hs1:=hb1.size
  clear h hr hb1 hW1 q8
  show Calls Tryz.prog 99 #[.pointer (some ⟨c,0,none⟩),.agg #[.int .u8 ak,.string an,.int .i64 az],.agg #[.int .u8 bk,.string bn,.int .i64 bz]] w _
  go_enter Tryz.func99,Tryz.ntmps99
  go_wp2_with fail
  rw [← HW.out]
  refine (HF.out _).mono ?_;rintro e' w2 ⟨rfl,hb2⟩
  have HB2:=hid (HB.out.trans (hb2.mono hs1))
  have hq8:w2.cell? ⟨c,8,none⟩ = some (.int .i64 p):=by rw [hb2.cell (p:=⟨c,8,none⟩) (by show c < _;omega)];exact HQ8.out
  clear hb2
  go_wp2_with fail
  refine (tmust_any c p 10 r w2 hq8 (by decide)).mono ?_;rintro e' w' ⟨he,rfl⟩
  cases r with
  | true =>
    rw [if_pos rfl,askE_0 rfl] at he
    subst he
    go_wp2_with fail
    go_end0
    exact⟨ask_yes (by simp),HB2.out⟩
  | false =>
    rw [if_neg (by decide),askE_no (by decide)] at he
    subst he
    exact⟨rfl,ask_no (by simp) (by decide),HB2.out⟩
theorem number_any (c:Nat) (e:En) (tv:Value) (p:Int) (res t:Ty) (w:World) (h:Tk c e tv p res w) :
    Calls Tryz.prog 100 #[.pointer (some ⟨c,0,none⟩),t.val] w fun e' w'=>e'=askE p (if t=intT then 0 else 10)∧Below w.heap.size w w':=by
  have hlt:=h.lt
  obtain⟨K,⟨-,-,-,-,-,-,-,-,q8,-,-,-⟩,-⟩:=h.cells
  have hq:=run_tyeq t intT
  obtain⟨r,hr⟩:∃ r,r=decide (t=intT):=⟨_,rfl⟩
  rw [show (if t=intT then (0:Int) else 10)=if r=true then 0 else 10 by rw [hr];simp]
  rw [← hr] at hq
  obtain⟨ak,an,az⟩:=t
  obtain⟨W1,hW1⟩:∃ W1,W1=w.alloc (.cells #[.int .u8 ak,.string an,.int .i64 az] 30):=⟨_,rfl⟩
  have hb1:Below w.heap.size w W1:=by rw [hW1];exact below_box w _
  have hz1:W1.heap.size=w.heap.size+1:=by rw [hW1];simp
  have hO0:W1.heap[w.heap.size]? = some (.cells #[.int .u8 ak,.string an,.int .i64 az] 30 (0,0)):=by rw [hW1];exact (MapKept.heap_alloc _ _).1
  obtain⟨a0,a1,a2⟩:=own3 hO0
  have HB:=hid hb1
  have HW:=hid hW1
  have HQ8:=hid (show W1.cell? ⟨c,8,none⟩ = some (.int .i64 p) by rw [hb1.cell (p:=⟨c,8,none⟩) hlt];exact q8)
  have hs1:=hb1.size
  replace hq:∀ w,(binOp .eql 30 (.agg #[.int .u8 ak,.string an,.int .i64 az]) (.agg #[.int .u8 1,.string ⟨#[]⟩,.int .i64 0])).run Tryz.prog w = .ok (.bool r) w:=hq
  clear h hr hb1 hW1 hO0 q8
  show Calls Tryz.prog 100 #[.pointer (some ⟨c,0,none⟩),.agg #[.int .u8 ak,.string an,.int .i64 az]] w _
  go_enter Tryz.func100,Tryz.ntmps100
  go_wp2_with fail
  rw [← HW.out]
  refine wp_region_held_drew (S:=SameTo (w.heap.size+1) W1) (by kernel_rfl) (SameTo.drew _ _) (fun hSw=>?_)
  refine wt (i:=0) (oi:={ dst:=some 4,op:=Op.move (Operand.tmp 0),type:=73,pos := "exprs.go:19", after:=#[],guard:=none }) (v:=.pointer (some ⟨c,0,none⟩)) (fun W hW=>?_) hSw ?_
  · first|(go_simp;done)|rfl
  try simp only [Act.put,q1,q2,q3]
  refine wt (i:=1) (oi:={ dst:=some 5,op:=Op.load 30 (Operand.tmp 3),type:=30,pos := "exprs.go:19", after:=#[],guard:=none }) (v:=.agg #[.int .u8 ak,.string an,.int .i64 az]) (fun W hW=>?_) hSw ?_
  · have a0:=hW.cell (by dsimp only;omega) a0
    have a1:=hW.cell (by dsimp only;omega) a1
    have a2:=hW.cell (by dsimp only;omega) a2
    first|(go_simp;done)|rfl
  try simp only [Act.put,q1,q2,q3]
  refine wpAnyH_ready (rs:=[2]) (by kernel_rfl) (by simp) ?_
  refine AllReadyH.cons (o:={ dst:=some 6,op:=Op.call { callee:=Callee.value (Operand.func 111),args:=#[],argTypes:=#[] },type:=30,pos := "exprs.go:19", after:=#[],guard:=none }) rfl (fun K hK=>?_) AllReadyH.nil
  rw [if_pos (by rfl)]
  clear hSw
  go_simp
  refine (inttype_any _).mono ?_;rintro e w2 ⟨rfl,hb2⟩
  have HB2:=hid (HB.out.trans ((Below.drew (Below.refl _ _)).trans hb2 |>.mono (by show w.heap.size≤W1.heap.size;omega)))
  have hq8:w2.cell? ⟨c,8,none⟩ = some (.int .i64 p):=by rw [hb2.cell (p:=⟨c,8,none⟩) (by show c < W1.heap.size;omega)];exact HQ8.out
  have HS2:=hid (show SameTo (w.heap.size+1) W1 w2 from (SameTo.drew _ _).trans (SameTo.of (hb2.mono (by show _≤W1.heap.size;omega))))
  clear hb2
  refine hK.out _ _ (HS2.out) (fun hSw=>?_)
  clear hK K
  try simp only [Act.put,q1,q2,q3]
  refine wt (i:=3) (oi:={ dst:=some 7,op:=Op.binOp BinOp.eql 30 (Operand.tmp 5) (Operand.tmp 6) 30,type:=4,pos := "exprs.go:19", after:=#[gd 1,gd 2],guard:=none }) (v:=.bool r) (fun W hW=>?_) hSw ?_
  · first|(go_simp;done)|rfl
  try simp only [Act.put,q1,q2,q3]
  refine wpAnyH_ready (rs:=[4]) (by kernel_rfl) (by simp) ?_
  refine AllReadyH.cons (o:={ dst:=some 8,op:=Op.call { callee:=Callee.value (Operand.func 54),args:=#[Operand.tmp 4,Operand.tmp 7,Operand.const (Value.int IntKind.i64 10)],argTypes:=#[73,4,37] },type:=0,pos := "exprs.go:19", after:=#[gd 0,gd 3,gc 2],guard:=none }) rfl (fun K hK=>?_) AllReadyH.nil
  rw [if_pos (by rfl)]
  clear hSw
  go_simp
  refine (tmust_any c p 10 r w2 hq8 (by decide)).mono ?_;rintro e' w' ⟨he,rfl⟩
  cases r with
  | true =>
    rw [if_pos rfl,askE_0 rfl] at he
    subst he
    refine hK.out _ _ (HS2.out) (fun hSw=>?_)
    clear hK K
    try simp only [Act.put,q1,q2,q3]
    refine wpAnyH_done (by kernel_rfl) ?_ _
    go_wp2_with fail
    go_end0
    exact⟨ask_yes (by simp),HB2.out⟩
  | false =>
    rw [if_neg (by decide),askE_no (by decide)] at he
    subst he
    exact⟨rfl,ask_no (by simp) (by decide),HB2.out⟩
end Go.Proofs.YtdhieihcmnpneaaGreatDoor
/- Whole values stored in blocks: the world behind such a store by what is known of it. -/
namespace Go.Proofs.YtdhieihcmnpneaaGreatDoor
open Lib (hid)
set_option maxHeartbeats 4000000
open Go.RowKit
structure Put (b:Nat) (o:Obj) (w w':World):Prop where
  os:w'.os=w.os
  tape:w'.tape=w.tape
  output:w'.output=w.output
  size:w'.heap.size=w.heap.size
  at_b:w'.heap[b]? = some o
  rest:∀ k,k ≠ b→w'.heap[k]? = w.heap[k]?
theorem heap_setCells (b:Nat) (T:TypeId):∀ (vs:List Value) (o:Nat) (w:World) (old:Array Value),w.heap[b]? = some (.cells old T (0,0)) →
    ∃ new,(w.setCells b o vs).heap[b]? = some (.cells new T (0,0))∧new.size=old.size∧∀ j,new[j]? = if o≤j∧j < o+vs.length∧j < old.size then vs[j - o]? else old[j]?
  | [],o,w,old,h=>⟨old,h,rfl,fun j=>by rw [if_neg (by simp;omega)]⟩
  | v :: r,o,w,old,h=>by
    have h1:(w.setCell ⟨b,o,none⟩ v).heap[b]? = some (.cells (old.setIfInBounds o v) T (0,0)):=by
      simp [World.setCell,Array.getElem?_modify,h]
    obtain⟨new,h2,h3,h4⟩:=heap_setCells b T r (o+1) _ _ h1
    refine⟨new,h2,by simpa using h3,fun j=>?_⟩
    rw [h4 j]
    simp only [List.length_cons,Array.size_setIfInBounds]
    by_cases hj:o+1≤j∧j < o+1+r.length∧j < old.size
    · rw [if_pos hj,if_pos (by omega),show j - o=(j - (o+1))+1 by omega,List.getElem?_cons_succ]
    · rw [if_neg hj,Array.getElem?_setIfInBounds]
      by_cases hjo:o=j
      · subst hjo
        by_cases hl:o < old.size
        · rw [if_pos rfl,if_pos hl,if_pos (by omega)];simp
        · rw [if_pos rfl,if_neg hl,if_neg (by omega),Array.getElem?_eq_none (by omega)]
      · rw [if_neg hjo,if_neg (by omega)]
theorem setCells_rest (b:Nat):∀ (vs:List Value) (o:Nat) (w:World),(w.setCells b o vs).os=w.os∧(w.setCells b o vs).tape=w.tape∧(w.setCells b o vs).output=w.output∧(w.setCells b o vs).heap.size=w.heap.size∧∀ k,k ≠ b→(w.setCells b o vs).heap[k]? = w.heap[k]?
  | [],_,_=>⟨rfl,rfl,rfl,rfl,fun _ _=>rfl⟩
  | v :: r,o,w=>by
    obtain⟨h1,h2,h3,h4,h5⟩:=setCells_rest b r (o+1) (w.setCell ⟨b,o,none⟩ v)
    exact⟨h1,h2,h3,by rw [show (w.setCells b o (v :: r))=(w.setCell ⟨b,o,none⟩ v).setCells b (o+1) r from rfl,h4];simp [World.setCell],fun k hk=>(h5 k hk).trans (Below.heap_setCell _ _ _ _ (by simpa using hk))⟩
theorem there_of {w:World} {b o n:Nat} {T:TypeId} {old:Array Value} (h:w.heap[b]? = some (.cells old T (0,0))) (hn:o+n≤old.size):w.there b o n:=fun j hj=>by
  rw [Lib.cell_of_heap h]
  exact⟨by rw [Array.getElem?_eq_getElem (by omega)];rfl,Lib.frozen_of_heap h _⟩
section
variable {P:Program} {ops:Array Oper} {rest:List Oper} {op:Oper} {a:Act} {w:World} {Q:Exit→Act→World→Prop}
theorem wp_put_at {K:Act→World→Prop} (ty:TypeId) (x y:Operand) (ho:op.op = .store ty x y) (b o:Nat) (T:TypeId) (old cells new:Array Value)
    (hx:a.eval x = .pointer (some ⟨b,o,none⟩)) (hy:a.eval y = .agg cells) (hb:w.heap[b]? = some (.cells old T (0,0))) (hs:o+cells.size≤old.size) (hi:(P.info? ty).map (·.size)=some cells.size) (h1:cells.all (·.oneCell')=true)
    (hnew:new=old.extract 0 o ++ cells ++ old.extract (o+cells.size) old.size)
    (h:∀ w',Put b (.cells new T (0,0)) w w'→K (a.put op.dst undef) w'):op.wp P a w K Q:=by
  refine wp_store_mid ty x y ho b o cells hx hy (there_of hb hs) hi h1 (h _ ?_)
  obtain⟨g1,g2,g3,g4,g5⟩:=setCells_rest b cells.toList o w
  obtain⟨n2,k1,k2,k3⟩:=heap_setCells b T cells.toList o w old hb
  refine⟨g1,g2,g3,g4, ?_,g5⟩
  rw [k1]
  congr 2
  apply Array.ext_getElem?
  intro j
  rw [k3 j,hnew,Array.getElem?_append,Array.getElem?_append]
  simp only [Array.size_append,Array.size_extract,Array.length_toList,Nat.min_eq_left (show o≤old.size by omega),Nat.sub_zero,Array.getElem?_extract,Nat.min_self,Array.getElem?_toList]
  by_cases ha:j < o
  · rw [if_neg (by omega),if_pos (by omega),if_pos ha,if_pos (by omega)];simp
  · by_cases hc:j < o+cells.size
    · rw [if_pos (by omega),if_pos hc,if_neg ha]
    · rw [if_neg (by omega),if_neg hc]
      by_cases hd:j < old.size
      · rw [if_pos (by omega)];congr 1;omega
      · rw [if_neg (by omega),Array.getElem?_eq_none (by omega)]
theorem wpList_put_at (hgd:op.guard=none) (ty:TypeId) (x y:Operand) (ho:op.op = .store ty x y) (b o:Nat) (T:TypeId) (old cells new:Array Value)
    (hx:a.eval x = .pointer (some ⟨b,o,none⟩)) (hy:a.eval y = .agg cells) (hb:w.heap[b]? = some (.cells old T (0,0))) (hs:o+cells.size≤old.size) (hi:(P.info? ty).map (·.size)=some cells.size) (h1:cells.all (·.oneCell')=true)
    (hnew:new=old.extract 0 o ++ cells ++ old.extract (o+cells.size) old.size)
    (h:∀ w',Put b (.cells new T (0,0)) w w'→wpList P ops Q rest (a.put op.dst undef) w'):wpList P ops Q (op :: rest) a w:=
  wpList_plain hgd fun _ hK=>wp_put_at ty x y ho b o T old cells new hx hy hb hs hi h1 hnew fun w' hp=>hK _ _ (h w' hp)
theorem wpList_put (hgd:op.guard=none) (ty:TypeId) (x y:Operand) (ho:op.op = .store ty x y) (b:Nat) (T:TypeId) (old cells:Array Value)
    (hx:a.eval x = .pointer (some ⟨b,0,none⟩)) (hy:a.eval y = .agg cells) (hb:w.heap[b]? = some (.cells old T (0,0))) (hs:old.size=cells.size) (hi:(P.info? ty).map (·.size)=some cells.size) (h1:cells.all (·.oneCell')=true)
    (h:∀ w',Put b (.cells cells T (0,0)) w w'→wpList P ops Q rest (a.put op.dst undef) w'):wpList P ops Q (op :: rest) a w:=
  wpList_put_at hgd ty x y ho b 0 T old cells cells hx hy hb (by omega) hi h1 (by
    rw [show old.extract (0+cells.size) old.size=#[] from Array.extract_empty_of_stop_le_start (by omega),show old.extract 0 0=#[] from Array.extract_empty_of_stop_le_start (by omega)];simp) h
end
theorem wp_put {P:Program} {op:Oper} {a:Act} {w:World} {Q:Exit→Act→World→Prop} {K:Act→World→Prop} (ty:TypeId) (x y:Operand) (ho:op.op = .store ty x y) (b:Nat) (T:TypeId) (old cells:Array Value)
    (hx:a.eval x = .pointer (some ⟨b,0,none⟩)) (hy:a.eval y = .agg cells) (hb:w.heap[b]? = some (.cells old T (0,0))) (hs:old.size=cells.size) (hi:(P.info? ty).map (·.size)=some cells.size) (h1:cells.all (·.oneCell')=true)
    (h:∀ w',Put b (.cells cells T (0,0)) w w'→K (a.put op.dst undef) w'):op.wp P a w K Q:=
  wp_put_at ty x y ho b 0 T old cells cells hx hy hb (by omega) hi h1 (by
    rw [show old.extract (0+cells.size) old.size=#[] from Array.extract_empty_of_stop_le_start (by omega),show old.extract 0 0=#[] from Array.extract_empty_of_stop_le_start (by omega)];simp) h
theorem Put.below {B b:Nat} {o:Obj} {a w w':World} (h:Put b o w w') (hA:Below B a w) (hb:B≤b):Below B a w':=
  ⟨h.os.trans hA.os,h.tape.trans hA.tape,h.output.trans hA.output,by rw [h.size];exact hA.size,fun k hk=>(h.rest k (by omega)).trans (hA.block k hk)⟩
end Go.Proofs.YtdhieihcmnpneaaGreatDoor
