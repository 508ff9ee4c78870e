/- What the types layer finds of a local that is declared, of a name, a field, an element. -/
import Derived.Test.YtdhieihcmnpneaaGreatDoorRows
import Derived.Test.YtdhieihcmnpneaaGreatDoorTypWt
import Derived.Test.YtdhieihcmnpneaaGreatDoorGFits
namespace Go.Proofs.YtdhieihcmnpneaaGreatDoor
open Lib (hid)
set_option maxHeartbeats 4000000
set_option maxRecDepth 100000
open Go.RowKit
attribute [local go_sem ↓] Go.wp_at_zero Go.wp_at_succ
theorem look_at2 {w:World} {m:Nat} {l:List ByteArray} {s:ByteArray} {i:Nat} (h:IsNm w m l) (hx:idx s l=some i) (W:World) (hW:W.heap[m]? = w.heap[m]?) :
    (Instr.lookup 104 (.map (some m)) (.string s) true).run Tryz.prog W = .ok (.tuple #[.int .i64 (i:Int),.bool true]) W:=by
  have:=look_nm2 h s W hW
  unfold idxI at this
  rw [hx] at this
  exact this
theorem look_no2 {w:World} {m:Nat} {l:List ByteArray} {s:ByteArray} (h:IsNm w m l) (hx:idx s l=none) (W:World) (hW:W.heap[m]? = w.heap[m]?) :
    (Instr.lookup 104 (.map (some m)) (.string s) true).run Tryz.prog W = .ok (.tuple #[.int .i64 0,.bool false]) W:=by
  have:=look_nm2 h s W hW
  unfold idxI at this
  rw [hx] at this
  exact this
theorem idx_lt {s:ByteArray}:∀ {l:List ByteArray} {i:Nat},idx s l=some i→i < l.length
  | [],_,h=>by cases h
  | a :: r,i,h=>by
    unfold idx at h
    split at h
    · cases h;simp
    · cases hx:idx s r with
      | none=>rw [hx] at h;cases h
      | some j =>
        rw [hx] at h
        cases h
        have:=idx_lt hx
        simp;omega
theorem Tk.drew {c:Nat} {e:En} {tv:Value} {p:Int} {res:Ty} {w:World} (h:Tk c e tv p res w):Tk c e tv p res w.drew:=h.kept ((Below.refl _ _).drew)
theorem Lc.drew {w:World} {v:Value} {l:List Fd} (h:Lc w v l):Lc w.drew v l:=h.below ((Below.refl _ _).drew)
def DecE (p k:Int) (l:List Fd) (w:World) (e:Ending) (w':World):Prop:=
  Below w.heap.size w w'∧(k=0→∃ g,e = .returned (.pointer g)∧Lc w' (.pointer g) l)∧(k ≠ 0→e = .panicked (ft p k))
theorem DecE.no {p k j:Int} {l:List Fd} {w w':World} (hb:Below w.heap.size w w') (hk:k=j) (hj:j ≠ 0):DecE p k l w (.panicked (ft p j)) w':=by
  subst hk;exact⟨hb,fun h=>absurd h hj,fun _=>rfl⟩
theorem lc_ptr {w:World} {v:Value} {l:List Fd} (h:Lc w v l):∃ ao,v = .pointer ao:=by
  cases l with
  | nil=>exact⟨none,h⟩
  | cons f r=>obtain⟨g,v',h1,_⟩:=h;exact⟨_,h1⟩
theorem declared_any (c:Nat) (e:En) (tv:Value) (p:Int) (res:Ty) (loc:List Fd) (v:Value) (f:Fd) (w:World) (h:Tk c e tv p res w) (hL:Lc w v loc) :
    Calls Tryz.prog 82 #[.pointer (some ⟨c,0,none⟩),.agg #[.string f.name,.int .u8 f.t.k,.string f.t.n,.int .i64 f.t.z],v] w (DecE p (declE e loc f) (f :: loc) w):=by
  obtain⟨ao,rfl⟩:=lc_ptr hL
  obtain⟨nm,⟨tk,tn,tz⟩⟩:=f
  obtain⟨W1,hW1⟩:∃ W1,W1=w.alloc (.cells #[.string nm,.int .u8 tk,.string tn,.int .i64 tz] 57):=⟨_,rfl⟩
  have hb1:Below w.heap.size w W1:=by rw [hW1];exact below_box w _
  have hz1:W1.heap.size=w.heap.size+1:=by rw [hW1];simp
  have hO:W1.heap[w.heap.size]? = some (.cells #[.string nm,.int .u8 tk,.string tn,.int .i64 tz] 57 (0,0)):=by rw [hW1];exact (MapKept.heap_alloc _ _).1
  have hlt:=h.lt
  have h1:=h.kept hb1
  obtain⟨b0,b1,b2,b3⟩:=cells_prog _ _ _ _ hO
  obtain⟨K,⟨-,-,-,-,-,-,q6,-,q8,-,-,-⟩,-,-,hms,-⟩:=h1.cells
  obtain⟨ms,hms'⟩:∃ m,m=K.ms:=⟨_,rfl⟩
  rw [← hms'] at q6 hms
  have H1:=hid h1
  have HL1:=hid (hL.below hb1)
  have HMS:=hid hms
  have HB:=hid hb1
  have HO:=hid hO
  have HW:=hid hW1
  obtain⟨r,hr⟩:∃ r,r=declE e loc ⟨nm,⟨tk,tn,tz⟩⟩:=⟨_,rfl⟩
  show Calls Tryz.prog 82 #[.pointer (some ⟨c,0,none⟩),.agg #[.string nm,.int .u8 tk,.string tn,.int .i64 tz],.pointer ao] w (DecE p (declE e loc ⟨nm,⟨tk,tn,tz⟩⟩) (⟨nm,⟨tk,tn,tz⟩⟩ :: loc) w)
  rw [← hr]
  unfold declE at hr
  simp only at hr
  clear h hL h1 hms hms' hb1 hW1 hO
  cases hfl:findL nm loc with
  | some f' =>
    have HR:=hid (show r=8 by rw [hr,hfl];simp)
    have HFL:=hid hfl
    clear hr hfl
    go_enter Tryz.func82,Tryz.ntmps82
    go_wp2_with fail
    rw [← HW.out]
    refine wp_region_held_drew (S:=SameTo (w.heap.size+1) W1) (by kernel_rfl) (SameTo.drew _ _) (fun hSw=>?_)
    refine wt (i:=0) (oi:={ dst:=some 7,op:=Op.move (Operand.tmp 0),type:=73,pos := "check.go:108", after:=#[],guard:=none }) (v:=.pointer (some ⟨c,0,none⟩)) (fun W hW=>?_) hSw ?_
    · first|(go_simp;done)|rfl
    try simp only [Act.put,q1,q2,q3]
    refine wt (i:=1) (oi:={ dst:=some 8,op:=Op.move (Operand.tmp 2),type:=148,pos := "check.go:108", after:=#[],guard:=none }) (v:=.pointer ao) (fun W hW=>?_) hSw ?_
    · first|(go_simp;done)|rfl
    try simp only [Act.put,q1,q2,q3]
    refine wt (i:=2) (oi:={ dst:=some 9,op:=Op.fieldAddr 57 (Operand.tmp 4) 0,type:=0,pos := "check.go:108", after:=#[],guard:=none }) (v:=.pointer (some ⟨w.heap.size,0,none⟩)) (fun W hW=>?_) hSw ?_
    · first|(go_simp;done)|rfl
    try simp only [Act.put,q1,q2,q3]
    refine wt (i:=3) (oi:={ dst:=some 10,op:=Op.load 9 (Operand.tmp 9),type:=9,pos := "check.go:108", after:=#[gd 2],guard:=none }) (v:=.string nm) (fun W hW=>?_) hSw ?_
    · have b0:=hW.cell (by dsimp only;omega) b0
      first|(go_simp;done)|rfl
    try simp only [Act.put,q1,q2,q3]
    refine wpAnyH_ready (rs:=[4]) (by kernel_rfl) (by simp) ?_
    refine AllReadyH.cons (o:={ dst:=some 11,op:=Op.call { callee:=Callee.value (Operand.func 96),args:=#[Operand.tmp 8,Operand.tmp 10],argTypes:=#[148,9] },type:=148,pos := "check.go:108", after:=#[gd 1,gd 3],guard:=none }) rfl (fun K hK=>?_) AllReadyH.nil
    rw [if_pos (by rfl)]
    clear hSw
    go_simp
    refine (find_any nm loc (.pointer ao) W1.drew HL1.out.drew).mono ?_;rintro e' w' ⟨hfe,rfl⟩
    obtain⟨g,v',rfl,-⟩:=hfe.2 _ HFL.out
    refine hK.out _ _ (SameTo.drew _ _) (fun hSw=>?_)
    clear hK K
    try simp only [Act.put,q1,q2,q3]
    refine wt (i:=5) (oi:={ dst:=some 12,op:=Op.binOp BinOp.eql 148 (Operand.tmp 11) (Operand.const (Value.pointer none)) 148,type:=4,pos := "check.go:108", after:=#[gd 4],guard:=none }) (v:=.bool false) (fun W hW=>?_) hSw ?_
    · first|(go_simp;done)|rfl
    try simp only [Act.put,q1,q2,q3]
    refine wt (i:=6) (oi:={ dst:=some 13,op:=Op.move (Operand.tmp 12),type:=4,pos := "check.go:108", after:=#[gd 5,gc 4],guard:=none }) (v:=.bool false) (fun W hW=>?_) hSw ?_
    · first|(go_simp;done)|rfl
    try simp only [Act.put,q1,q2,q3]
    refine wpAnyH_take (i:=7) (oi:={ dst:=some 14,op:=Op.move (Operand.tmp 0),type:=73,pos := "check.go:108", after:=#[{ on:=6,ground:=Ground.guard }],guard:=some (6,true) }) (v:=undef) rfl (by kernel_rfl) (by kernel_rfl) (by kernel_rfl) (fun _ _ _ h=>h) (Or.inr ⟨by rfl,rfl⟩) hSw ?_
    try simp only [Act.put,q1,q2,q3]
    refine wpAnyH_take (i:=8) (oi:={ dst:=some 15,op:=Op.nilCheck (Operand.tmp 14),type:=0,pos := "check.go:108", after:=#[gd 7,{ on:=6,ground:=Ground.guard }],guard:=some (6,true) }) (v:=undef) rfl (by kernel_rfl) (by kernel_rfl) (by kernel_rfl) (fun _ _ _ h=>h) (Or.inr ⟨by rfl,rfl⟩) hSw ?_
    try simp only [Act.put,q1,q2,q3]
    refine wpAnyH_take (i:=9) (oi:={ dst:=some 16,op:=Op.fieldAddr 112 (Operand.tmp 15) 3,type:=0,pos := "check.go:108", after:=#[gd 8,{ on:=6,ground:=Ground.guard }],guard:=some (6,true) }) (v:=undef) rfl (by kernel_rfl) (by kernel_rfl) (by kernel_rfl) (fun _ _ _ h=>h) (Or.inr ⟨by rfl,rfl⟩) hSw ?_
    try simp only [Act.put,q1,q2,q3]
    refine wpAnyH_take (i:=10) (oi:={ dst:=some 17,op:=Op.load 104 (Operand.tmp 16),type:=104,pos := "check.go:108", after:=#[gd 9,{ on:=6,ground:=Ground.guard }],guard:=some (6,true) }) (v:=undef) rfl (by kernel_rfl) (by kernel_rfl) (by kernel_rfl) (fun _ _ _ h=>h) (Or.inr ⟨by rfl,rfl⟩) hSw ?_
    try simp only [Act.put,q1,q2,q3]
    refine wpAnyH_take (i:=11) (oi:={ dst:=some 18,op:=Op.fieldAddr 57 (Operand.tmp 4) 0,type:=0,pos := "check.go:108", after:=#[{ on:=6,ground:=Ground.guard }],guard:=some (6,true) }) (v:=undef) rfl (by kernel_rfl) (by kernel_rfl) (by kernel_rfl) (fun _ _ _ h=>h) (Or.inr ⟨by rfl,rfl⟩) hSw ?_
    try simp only [Act.put,q1,q2,q3]
    refine wpAnyH_take (i:=12) (oi:={ dst:=some 19,op:=Op.load 9 (Operand.tmp 18),type:=9,pos := "check.go:108", after:=#[gd 11,{ on:=6,ground:=Ground.guard }],guard:=some (6,true) }) (v:=undef) rfl (by kernel_rfl) (by kernel_rfl) (by kernel_rfl) (fun _ _ _ h=>h) (Or.inr ⟨by rfl,rfl⟩) hSw ?_
    try simp only [Act.put,q1,q2,q3]
    refine wpAnyH_take (i:=13) (oi:={ dst:=some 20,op:=Op.call { callee:=Callee.value (Operand.func 55),args:=#[Operand.tmp 17,Operand.tmp 19],argTypes:=#[104,9] },type:=4,pos := "check.go:108", after:=#[gd 10,gd 12,gc 6,{ on:=6,ground:=Ground.guard }],guard:=some (6,true) }) (v:=undef) rfl (by kernel_rfl) (by kernel_rfl) (by kernel_rfl) (fun _ _ _ h=>h) (Or.inr ⟨by rfl,rfl⟩) hSw ?_
    try simp only [Act.put,q1,q2,q3]
    refine wpAnyH_take (i:=14) (oi:={ dst:=some 21,op:=Op.unOp UnOp.not 4 (Operand.tmp 20),type:=4,pos := "check.go:108", after:=#[gd 13,{ on:=6,ground:=Ground.guard }],guard:=some (6,true) }) (v:=undef) rfl (by kernel_rfl) (by kernel_rfl) (by kernel_rfl) (fun _ _ _ h=>h) (Or.inr ⟨by rfl,rfl⟩) hSw ?_
    try simp only [Act.put,q1,q2,q3]
    refine wt (i:=15) (oi:={ dst:=some 22,op:=Op.pick (Operand.tmp 13) (Operand.tmp 21) (Operand.const (Value.bool false)),type:=4,pos := "check.go:108", after:=#[gd 6,gd 14],guard:=none }) (v:=.bool false) (fun W hW=>?_) hSw ?_
    · first|(go_simp;done)|rfl
    try simp only [Act.put,q1,q2,q3]
    refine wpAnyH_ready (rs:=[16]) (by kernel_rfl) (by simp) ?_
    refine AllReadyH.cons (o:={ dst:=some 23,op:=Op.call { callee:=Callee.value (Operand.func 54),args:=#[Operand.tmp 7,Operand.tmp 22,Operand.const (Value.int IntKind.i64 8)],argTypes:=#[73,4,37] },type:=0,pos := "check.go:108", after:=#[gd 0,gd 15,gc 13],guard:=none }) rfl (fun K hK=>?_) AllReadyH.nil
    rw [if_pos (by rfl)]
    clear hSw
    go_simp
    refine (tmust_no c p 8 W1.drew q8).mono ?_;rintro e' w' ⟨rfl,rfl⟩
    exact⟨rfl,DecE.no HB.out.drew HR.out (by decide)⟩
  | none =>
    have HFL:=hid hfl
    cases hx:(idx nm (fnames e.shared)).isSome with
    | true =>
      have HR:=hid (show r=8 by rw [hr,hfl,hx];simp)
      have HX:=hid hx
      clear hr hfl hx
      go_enter Tryz.func82,Tryz.ntmps82
      go_wp2_with fail
      rw [← HW.out]
      refine wp_region_held_drew (S:=SameTo (w.heap.size+1) W1) (by kernel_rfl) (SameTo.drew _ _) (fun hSw=>?_)
      refine wt (i:=0) (oi:={ dst:=some 7,op:=Op.move (Operand.tmp 0),type:=73,pos := "check.go:108", after:=#[],guard:=none }) (v:=.pointer (some ⟨c,0,none⟩)) (fun W hW=>?_) hSw ?_
      · first|(go_simp;done)|rfl
      try simp only [Act.put,q1,q2,q3]
      refine wt (i:=1) (oi:={ dst:=some 8,op:=Op.move (Operand.tmp 2),type:=148,pos := "check.go:108", after:=#[],guard:=none }) (v:=.pointer ao) (fun W hW=>?_) hSw ?_
      · first|(go_simp;done)|rfl
      try simp only [Act.put,q1,q2,q3]
      refine wt (i:=2) (oi:={ dst:=some 9,op:=Op.fieldAddr 57 (Operand.tmp 4) 0,type:=0,pos := "check.go:108", after:=#[],guard:=none }) (v:=.pointer (some ⟨w.heap.size,0,none⟩)) (fun W hW=>?_) hSw ?_
      · first|(go_simp;done)|rfl
      try simp only [Act.put,q1,q2,q3]
      refine wt (i:=3) (oi:={ dst:=some 10,op:=Op.load 9 (Operand.tmp 9),type:=9,pos := "check.go:108", after:=#[gd 2],guard:=none }) (v:=.string nm) (fun W hW=>?_) hSw ?_
      · have b0:=hW.cell (by dsimp only;omega) b0
        first|(go_simp;done)|rfl
      try simp only [Act.put,q1,q2,q3]
      refine wpAnyH_ready (rs:=[4]) (by kernel_rfl) (by simp) ?_
      refine AllReadyH.cons (o:={ dst:=some 11,op:=Op.call { callee:=Callee.value (Operand.func 96),args:=#[Operand.tmp 8,Operand.tmp 10],argTypes:=#[148,9] },type:=148,pos := "check.go:108", after:=#[gd 1,gd 3],guard:=none }) rfl (fun K hK=>?_) AllReadyH.nil
      rw [if_pos (by rfl)]
      clear hSw
      go_simp
      refine (find_any nm loc (.pointer ao) W1.drew HL1.out.drew).mono ?_;rintro e' w' ⟨hfe,rfl⟩
      obtain rfl:=hfe.1 HFL.out
      refine hK.out _ _ (SameTo.drew _ _) (fun hSw=>?_)
      clear hK K
      try simp only [Act.put,q1,q2,q3]
      refine wt (i:=5) (oi:={ dst:=some 12,op:=Op.binOp BinOp.eql 148 (Operand.tmp 11) (Operand.const (Value.pointer none)) 148,type:=4,pos := "check.go:108", after:=#[gd 4],guard:=none }) (v:=.bool true) (fun W hW=>?_) hSw ?_
      · first|(go_simp;done)|rfl
      try simp only [Act.put,q1,q2,q3]
      refine wt (i:=6) (oi:={ dst:=some 13,op:=Op.move (Operand.tmp 12),type:=4,pos := "check.go:108", after:=#[gd 5,gc 4],guard:=none }) (v:=.bool true) (fun W hW=>?_) hSw ?_
      · first|(go_simp;done)|rfl
      try simp only [Act.put,q1,q2,q3]
      refine wt (i:=7) (oi:={ dst:=some 14,op:=Op.move (Operand.tmp 0),type:=73,pos := "check.go:108", after:=#[{ on:=6,ground:=Ground.guard }],guard:=some (6,true) }) (v:=.pointer (some ⟨c,0,none⟩)) (fun W hW=>?_) hSw ?_
      · first|(go_simp;done)|rfl
      try simp only [Act.put,q1,q2,q3]
      refine wt (i:=8) (oi:={ dst:=some 15,op:=Op.nilCheck (Operand.tmp 14),type:=0,pos := "check.go:108", after:=#[gd 7,{ on:=6,ground:=Ground.guard }],guard:=some (6,true) }) (v:=.pointer (some ⟨c,0,none⟩)) (fun W hW=>?_) hSw ?_
      · first|(go_simp;done)|rfl
      try simp only [Act.put,q1,q2,q3]
      refine wt (i:=9) (oi:={ dst:=some 16,op:=Op.fieldAddr 112 (Operand.tmp 15) 3,type:=0,pos := "check.go:108", after:=#[gd 8,{ on:=6,ground:=Ground.guard }],guard:=some (6,true) }) (v:=.pointer (some ⟨c,6,none⟩)) (fun W hW=>?_) hSw ?_
      · first|(go_simp;done)|rfl
      try simp only [Act.put,q1,q2,q3]
      refine wt (i:=10) (oi:={ dst:=some 17,op:=Op.load 104 (Operand.tmp 16),type:=104,pos := "check.go:108", after:=#[gd 9,{ on:=6,ground:=Ground.guard }],guard:=some (6,true) }) (v:=.map (some ms)) (fun W hW=>?_) hSw ?_
      · have q6:=hW.cell (by dsimp only;omega) q6
        first|(go_simp;done)|rfl
      try simp only [Act.put,q1,q2,q3]
      refine wt (i:=11) (oi:={ dst:=some 18,op:=Op.fieldAddr 57 (Operand.tmp 4) 0,type:=0,pos := "check.go:108", after:=#[{ on:=6,ground:=Ground.guard }],guard:=some (6,true) }) (v:=.pointer (some ⟨w.heap.size,0,none⟩)) (fun W hW=>?_) hSw ?_
      · first|(go_simp;done)|rfl
      try simp only [Act.put,q1,q2,q3]
      refine wt (i:=12) (oi:={ dst:=some 19,op:=Op.load 9 (Operand.tmp 18),type:=9,pos := "check.go:108", after:=#[gd 11,{ on:=6,ground:=Ground.guard }],guard:=some (6,true) }) (v:=.string nm) (fun W hW=>?_) hSw ?_
      · have b0:=hW.cell (by dsimp only;omega) b0
        first|(go_simp;done)|rfl
      try simp only [Act.put,q1,q2,q3]
      refine wpAnyH_ready (rs:=[13]) (by kernel_rfl) (by simp) ?_
      refine AllReadyH.cons (o:={ dst:=some 20,op:=Op.call { callee:=Callee.value (Operand.func 55),args:=#[Operand.tmp 17,Operand.tmp 19],argTypes:=#[104,9] },type:=4,pos := "check.go:108", after:=#[gd 10,gd 12,gc 6,{ on:=6,ground:=Ground.guard }],guard:=some (6,true) }) rfl (fun K hK=>?_) AllReadyH.nil
      rw [if_pos (by rfl)]
      clear hSw
      go_simp
      refine (has_any _ ms nm W1.drew HMS.out).mono ?_;rintro e' w' ⟨rfl,rfl⟩
      rw [HX.out]
      refine hK.out _ _ (SameTo.drew _ _) (fun hSw=>?_)
      clear hK K
      try simp only [Act.put,q1,q2,q3]
      refine wt (i:=14) (oi:={ dst:=some 21,op:=Op.unOp UnOp.not 4 (Operand.tmp 20),type:=4,pos := "check.go:108", after:=#[gd 13,{ on:=6,ground:=Ground.guard }],guard:=some (6,true) }) (v:=.bool false) (fun W hW=>?_) hSw ?_
      · first|(go_simp;done)|rfl
      try simp only [Act.put,q1,q2,q3]
      refine wt (i:=15) (oi:={ dst:=some 22,op:=Op.pick (Operand.tmp 13) (Operand.tmp 21) (Operand.const (Value.bool false)),type:=4,pos := "check.go:108", after:=#[gd 6,gd 14],guard:=none }) (v:=.bool false) (fun W hW=>?_) hSw ?_
      · first|(go_simp;done)|rfl
      try simp only [Act.put,q1,q2,q3]
      refine wpAnyH_ready (rs:=[16]) (by kernel_rfl) (by simp) ?_
      refine AllReadyH.cons (o:={ dst:=some 23,op:=Op.call { callee:=Callee.value (Operand.func 54),args:=#[Operand.tmp 7,Operand.tmp 22,Operand.const (Value.int IntKind.i64 8)],argTypes:=#[73,4,37] },type:=0,pos := "check.go:108", after:=#[gd 0,gd 15,gc 13],guard:=none }) rfl (fun K hK=>?_) AllReadyH.nil
      rw [if_pos (by rfl)]
      clear hSw
      go_simp
      refine (tmust_no c p 8 W1.drew q8).mono ?_;rintro e' w' ⟨rfl,rfl⟩
      exact⟨rfl,DecE.no HB.out.drew HR.out (by decide)⟩
    | false =>
      have HR:=hid (show r=knownE e ⟨tk,tn,tz⟩ by rw [hr,hfl,hx];simp [knownE])
      have HX:=hid hx
      clear hr hfl hx
      go_enter Tryz.func82,Tryz.ntmps82
      go_wp2_with fail
      rw [← HW.out]
      refine wp_region_held_drew (S:=SameTo (w.heap.size+1) W1) (by kernel_rfl) (SameTo.drew _ _) (fun hSw=>?_)
      refine wt (i:=0) (oi:={ dst:=some 7,op:=Op.move (Operand.tmp 0),type:=73,pos := "check.go:108", after:=#[],guard:=none }) (v:=.pointer (some ⟨c,0,none⟩)) (fun W hW=>?_) hSw ?_
      · first|(go_simp;done)|rfl
      try simp only [Act.put,q1,q2,q3]
      refine wt (i:=1) (oi:={ dst:=some 8,op:=Op.move (Operand.tmp 2),type:=148,pos := "check.go:108", after:=#[],guard:=none }) (v:=.pointer ao) (fun W hW=>?_) hSw ?_
      · first|(go_simp;done)|rfl
      try simp only [Act.put,q1,q2,q3]
      refine wt (i:=2) (oi:={ dst:=some 9,op:=Op.fieldAddr 57 (Operand.tmp 4) 0,type:=0,pos := "check.go:108", after:=#[],guard:=none }) (v:=.pointer (some ⟨w.heap.size,0,none⟩)) (fun W hW=>?_) hSw ?_
      · first|(go_simp;done)|rfl
      try simp only [Act.put,q1,q2,q3]
      refine wt (i:=3) (oi:={ dst:=some 10,op:=Op.load 9 (Operand.tmp 9),type:=9,pos := "check.go:108", after:=#[gd 2],guard:=none }) (v:=.string nm) (fun W hW=>?_) hSw ?_
      · have b0:=hW.cell (by dsimp only;omega) b0
        first|(go_simp;done)|rfl
      try simp only [Act.put,q1,q2,q3]
      refine wpAnyH_ready (rs:=[4]) (by kernel_rfl) (by simp) ?_
      refine AllReadyH.cons (o:={ dst:=some 11,op:=Op.call { callee:=Callee.value (Operand.func 96),args:=#[Operand.tmp 8,Operand.tmp 10],argTypes:=#[148,9] },type:=148,pos := "check.go:108", after:=#[gd 1,gd 3],guard:=none }) rfl (fun K hK=>?_) AllReadyH.nil
      rw [if_pos (by rfl)]
      clear hSw
      go_simp
      refine (find_any nm loc (.pointer ao) W1.drew HL1.out.drew).mono ?_;rintro e' w' ⟨hfe,rfl⟩
      obtain rfl:=hfe.1 HFL.out
      refine hK.out _ _ (SameTo.drew _ _) (fun hSw=>?_)
      clear hK K
      try simp only [Act.put,q1,q2,q3]
      refine wt (i:=5) (oi:={ dst:=some 12,op:=Op.binOp BinOp.eql 148 (Operand.tmp 11) (Operand.const (Value.pointer none)) 148,type:=4,pos := "check.go:108", after:=#[gd 4],guard:=none }) (v:=.bool true) (fun W hW=>?_) hSw ?_
      · first|(go_simp;done)|rfl
      try simp only [Act.put,q1,q2,q3]
      refine wt (i:=6) (oi:={ dst:=some 13,op:=Op.move (Operand.tmp 12),type:=4,pos := "check.go:108", after:=#[gd 5,gc 4],guard:=none }) (v:=.bool true) (fun W hW=>?_) hSw ?_
      · first|(go_simp;done)|rfl
      try simp only [Act.put,q1,q2,q3]
      refine wt (i:=7) (oi:={ dst:=some 14,op:=Op.move (Operand.tmp 0),type:=73,pos := "check.go:108", after:=#[{ on:=6,ground:=Ground.guard }],guard:=some (6,true) }) (v:=.pointer (some ⟨c,0,none⟩)) (fun W hW=>?_) hSw ?_
      · first|(go_simp;done)|rfl
      try simp only [Act.put,q1,q2,q3]
      refine wt (i:=8) (oi:={ dst:=some 15,op:=Op.nilCheck (Operand.tmp 14),type:=0,pos := "check.go:108", after:=#[gd 7,{ on:=6,ground:=Ground.guard }],guard:=some (6,true) }) (v:=.pointer (some ⟨c,0,none⟩)) (fun W hW=>?_) hSw ?_
      · first|(go_simp;done)|rfl
      try simp only [Act.put,q1,q2,q3]
      refine wt (i:=9) (oi:={ dst:=some 16,op:=Op.fieldAddr 112 (Operand.tmp 15) 3,type:=0,pos := "check.go:108", after:=#[gd 8,{ on:=6,ground:=Ground.guard }],guard:=some (6,true) }) (v:=.pointer (some ⟨c,6,none⟩)) (fun W hW=>?_) hSw ?_
      · first|(go_simp;done)|rfl
      try simp only [Act.put,q1,q2,q3]
      refine wt (i:=10) (oi:={ dst:=some 17,op:=Op.load 104 (Operand.tmp 16),type:=104,pos := "check.go:108", after:=#[gd 9,{ on:=6,ground:=Ground.guard }],guard:=some (6,true) }) (v:=.map (some ms)) (fun W hW=>?_) hSw ?_
      · have q6:=hW.cell (by dsimp only;omega) q6
        first|(go_simp;done)|rfl
      try simp only [Act.put,q1,q2,q3]
      refine wt (i:=11) (oi:={ dst:=some 18,op:=Op.fieldAddr 57 (Operand.tmp 4) 0,type:=0,pos := "check.go:108", after:=#[{ on:=6,ground:=Ground.guard }],guard:=some (6,true) }) (v:=.pointer (some ⟨w.heap.size,0,none⟩)) (fun W hW=>?_) hSw ?_
      · first|(go_simp;done)|rfl
      try simp only [Act.put,q1,q2,q3]
      refine wt (i:=12) (oi:={ dst:=some 19,op:=Op.load 9 (Operand.tmp 18),type:=9,pos := "check.go:108", after:=#[gd 11,{ on:=6,ground:=Ground.guard }],guard:=some (6,true) }) (v:=.string nm) (fun W hW=>?_) hSw ?_
      · have b0:=hW.cell (by dsimp only;omega) b0
        first|(go_simp;done)|rfl
      try simp only [Act.put,q1,q2,q3]
      refine wpAnyH_ready (rs:=[13]) (by kernel_rfl) (by simp) ?_
      refine AllReadyH.cons (o:={ dst:=some 20,op:=Op.call { callee:=Callee.value (Operand.func 55),args:=#[Operand.tmp 17,Operand.tmp 19],argTypes:=#[104,9] },type:=4,pos := "check.go:108", after:=#[gd 10,gd 12,gc 6,{ on:=6,ground:=Ground.guard }],guard:=some (6,true) }) rfl (fun K hK=>?_) AllReadyH.nil
      rw [if_pos (by rfl)]
      clear hSw
      go_simp
      refine (has_any _ ms nm W1.drew HMS.out).mono ?_;rintro e' w' ⟨rfl,rfl⟩
      rw [HX.out]
      refine hK.out _ _ (SameTo.drew _ _) (fun hSw=>?_)
      clear hK K
      try simp only [Act.put,q1,q2,q3]
      refine wt (i:=14) (oi:={ dst:=some 21,op:=Op.unOp UnOp.not 4 (Operand.tmp 20),type:=4,pos := "check.go:108", after:=#[gd 13,{ on:=6,ground:=Ground.guard }],guard:=some (6,true) }) (v:=.bool true) (fun W hW=>?_) hSw ?_
      · first|(go_simp;done)|rfl
      try simp only [Act.put,q1,q2,q3]
      refine wt (i:=15) (oi:={ dst:=some 22,op:=Op.pick (Operand.tmp 13) (Operand.tmp 21) (Operand.const (Value.bool false)),type:=4,pos := "check.go:108", after:=#[gd 6,gd 14],guard:=none }) (v:=.bool true) (fun W hW=>?_) hSw ?_
      · first|(go_simp;done)|rfl
      try simp only [Act.put,q1,q2,q3]
      refine wpAnyH_ready (rs:=[16]) (by kernel_rfl) (by simp) ?_
      refine AllReadyH.cons (o:={ dst:=some 23,op:=Op.call { callee:=Callee.value (Operand.func 54),args:=#[Operand.tmp 7,Operand.tmp 22,Operand.const (Value.int IntKind.i64 8)],argTypes:=#[73,4,37] },type:=0,pos := "check.go:108", after:=#[gd 0,gd 15,gc 13],guard:=none }) rfl (fun K hK=>?_) AllReadyH.nil
      rw [if_pos (by rfl)]
      clear hSw
      go_simp
      refine (tmust_yes c 8 W1.drew).mono ?_;rintro e' w' ⟨rfl,rfl⟩
      refine hK.out _ _ (SameTo.drew _ _) (fun hSw=>?_)
      clear hK K
      try simp only [Act.put,q1,q2,q3]
      refine wpAnyH_done (by kernel_rfl) ?_ _
      go_wp2_with fail
      refine (known_any c e tv p res ⟨tk,tn,tz⟩ W1.drew H1.out.drew).mono ?_;rintro e' w3 ⟨he,hb3⟩
      rw [← HR.out] at he
      replace hb3:Below W1.heap.size W1 w3:=⟨hb3.os,hb3.tape,hb3.output,hb3.size,hb3.block⟩
      have hs3:=hb3.size
      have HB3:=hid (HB.out.trans (hb3.mono (by omega)))
      have HL3:=hid (HL1.out.below hb3)
      have hO3:=(hb3.block _ (by omega)).trans HO.out
      clear hb3 b0 b1 b2 b3
      obtain⟨b0,b1,b2,b3⟩:=cells_prog _ _ _ _ hO3
      clear hO3
      by_cases h0:r=0
      · rw [askE_0 h0] at he
        subst he
        have HB4:=hid (HB3.out.alloc (show w.heap.size≤w3.heap.size by omega) (.cells #[.string nm,.int .u8 tk,.string tn,.int .i64 tz,.pointer ao] 166))
        have HO4:=hid (MapKept.heap_alloc w3 (.cells #[.string nm,.int .u8 tk,.string tn,.int .i64 tz,.pointer ao] 166)).1
        have HL4:=hid (HL3.out.below (below_box w3 (.cells #[.string nm,.int .u8 tk,.string tn,.int .i64 tz,.pointer ao] 166)))
        go_wp2_with fail
        go_ret
        exact⟨HB4.out,fun _=>⟨some ⟨w3.heap.size,0,none⟩,rfl,w3.heap.size,.pointer ao,rfl,HO4.out,HL4.out⟩,fun h=>absurd h0 h⟩
      · rw [askE_no h0] at he
        subst he
        exact⟨rfl,HB3.out,fun h=>absurd h h0,fun _=>rfl⟩
def EX (x:X):Prop:=∀ (c:Nat) (e:En) (tv:Value) (p:Int) (res:Ty) (loc:List Fd) (v:Value) (w:World),Tk c e tv p res w→InW w w.heap.size x→Fine x→X.size x≤1024→Lc w v loc →
    Calls Tryz.prog 102 #[.pointer (some ⟨c,0,none⟩),x.val,v] w (TyE p (exprT e loc x) w)
theorem valT_no {R:Except Int Ty} {k:Int} (h:R = .error k):valT R = .error k:=by rw [h];rfl
theorem valT_none {R:Except Int Ty} {t:Ty} (h:R = .ok t) (ht:t.k=0):valT R = .error 10:=by rw [h];exact if_pos ht
theorem valT_ok {R:Except Int Ty} {t:Ty} (h:R = .ok t) (ht:¬ t.k=0):valT R = .ok t:=by rw [h];exact if_neg ht
theorem below_tape {B:Nat} {w w':World} (h:Below B w.drew w'):Below B w w':=⟨h.os,h.tape,h.output,h.size,h.block⟩
theorem value_of (x:X) (hE:EX x) (c:Nat) (e:En) (tv:Value) (p:Int) (res:Ty) (loc:List Fd) (v:Value) (w:World) (h:Tk c e tv p res w) (hI:InW w w.heap.size x) (hF:Fine x) (hS:X.size x≤1024) (hL:Lc w v loc) :
    Calls Tryz.prog 98 #[.pointer (some ⟨c,0,none⟩),x.val,v] w (TyE p (valueT e loc x) w):=by
  obtain⟨ao,rfl⟩:=lc_ptr hL
  obtain⟨xo,xc,ex⟩:=x_slice hI
  obtain⟨xn,hxn⟩:∃ n,n=x.args.length:=⟨_,rfl⟩
  obtain⟨R,hR⟩:∃ R,R=exprT e loc x:=⟨_,rfl⟩
  have hRV:valueT e loc x=valT R:=by rw [hR];rfl
  rw [hRV]
  have hV:=val_of ex
  rw [← hxn] at hV
  obtain⟨W1,hW1⟩:∃ W1,W1=(w.alloc (.cells #[.int .u8 x.hd.k,.int .i64 x.hd.n,.string x.hd.name,.int .u8 x.hd.tk,.string x.hd.tn,.int .i64 x.hd.tz,.slice xo xn xc] 62)).alloc (.cells #[.int .u8 0,.string ⟨#[]⟩,.int .i64 0] 30):=⟨_,rfl⟩
  have hb1:Below w.heap.size w W1:=by rw [hW1];exact (below_box w _).alloc (by simp) _
  have hz1:W1.heap.size=w.heap.size+2:=by rw [hW1];simp
  have hO:W1.heap[w.heap.size]? = some (.cells #[.int .u8 x.hd.k,.int .i64 x.hd.n,.string x.hd.name,.int .u8 x.hd.tk,.string x.hd.tn,.int .i64 x.hd.tz,.slice xo xn xc] 62 (0,0)):=by rw [hW1,Below.heap_alloc _ _ _ (by simp)];exact (MapKept.heap_alloc _ _).1
  have hZ:W1.heap[w.heap.size+1]? = some (.cells #[.int .u8 0,.string ⟨#[]⟩,.int .i64 0] 30 (0,0)):=by rw [hW1,show w.heap.size+1=(w.alloc (.cells #[.int .u8 x.hd.k,.int .i64 x.hd.n,.string x.hd.name,.int .u8 x.hd.tk,.string x.hd.tn,.int .i64 x.hd.tz,.slice xo xn xc] 62)).heap.size by simp];exact (MapKept.heap_alloc _ _).1
  have h1:=h.kept hb1
  have HEX:=hid (hE c e tv p res loc (.pointer ao) W1 h1 ((InW.keeps hb1 _ hI).up (by omega)) hF hS (hL.below hb1))
  rw [← hR,hV] at HEX
  rw [hV]
  have H1:=hid h1
  have HB:=hid hb1
  have HZ:=hid hZ
  have HW:=hid hW1
  obtain⟨b0,b1,b2,b3,b4,b5,b6⟩:=own7 hO
  rw [hW1] at b0 b1 b2 b3 b4 b5 b6
  clear h hI hF hL h1 hb1 hW1 hO hZ hE hR hRV hV ex hxn
  go_enter Tryz.func98,Tryz.ntmps98
  go_wp2_with fail
  rw [← HW.out]
  refine HEX.out.mono ?_;rintro e' w2 hq
  cases hRc:R with
  | error k =>
    obtain⟨rfl,hb2⟩:=hq.not hRc
    exact⟨rfl,TyE.no (valT_no rfl) (HB.out.trans (hb2.mono (by omega)))⟩
  | ok t =>
  obtain⟨he,hb2⟩:=hq.yes hRc
  have hs2:=hb2.size
  obtain⟨ak,an,az⟩:=t
  replace he:e' = .returned (.agg #[.int .u8 ak,.string an,.int .i64 az]):=he
  subst he
  have HRC:=hid hRc
  obtain⟨W3,hW3⟩:∃ W3,W3=w2.alloc (.cells #[.int .u8 ak,.string an,.int .i64 az] 30):=⟨_,rfl⟩
  have hb3:Below w2.heap.size w2 W3:=by rw [hW3];exact below_box w2 _
  have hz3:W3.heap.size=w2.heap.size+1:=by rw [hW3];simp
  have hO3:W3.heap[w2.heap.size]? = some (.cells #[.int .u8 ak,.string an,.int .i64 az] 30 (0,0)):=by rw [hW3];exact (MapKept.heap_alloc _ _).1
  have hk8:=H1.out.kept (hb2.trans (hb3.mono hs2))
  obtain⟨K2,⟨-,-,-,-,-,-,-,-,hq8,-,-,-⟩,-⟩:=hk8.cells
  clear hk8
  have HB3:=hid ((HB.out.trans (hb2.mono (by omega))).trans (hb3.mono (by omega)))
  have HZ3:=hid ((hb3.block _ (by omega)).trans ((hb2.block _ (by omega)).trans HZ.out))
  have HW3:=hid hW3
  obtain⟨o0,o1,o2⟩:=own3 hO3
  rw [hW3] at o0
  clear hb2 hb3 hW3 hO3 hq hRc b0 b1 b2 b3 b4 b5 b6
  by_cases hk:ak=0
  · have hq0:(ak != 0)=false:=by simp [hk]
    have HK:=hid hk
    clear hk
    go_wp2_with fail
    rw [← HW3.out]
    refine (tmust_no c p 10 W3 hq8).mono ?_;rintro e' w' ⟨rfl,rfl⟩
    exact⟨rfl,TyE.no (valT_none HRC.out HK.out) HB3.out⟩
  · have hq0:(ak != 0)=true:=bne_iff_ne.2 hk
    have HK:=hid hk
    clear hk
    go_wp2_with fail
    rw [← HW3.out]
    refine (tmust_yes c 10 W3).mono ?_;rintro e' w' ⟨rfl,rfl⟩
    have hlt5:w2.heap.size+1≤W3.heap.size:=by omega
    rw [← HW3.out] at o0
    go_wp2_with (refine wpList_put rfl 30 (Operand.tmp 6) (Operand.tmp 17) rfl (w.heap.size+1) 30 _ #[.int .u8 ak,.string an,.int .i64 az] rfl rfl HZ3.out rfl (by kernel_rfl) (by simp [Value.oneCell']) ?_)
    intro w6 hp6
    have HP6:=hid hp6
    clear hp6
    go_wp2_with fail
    refine bodyPost_ret (v:=.agg #[.int .u8 ak,.string an,.int .i64 az]) (results_cell_row rfl _ _ (w.heap.size+1) 30 _ (0,0) _ rfl HP6.out.at_b Tryz.underlying30 rfl (by kernel_rfl)) rfl ?_
    exact TyE.ok (t:=⟨ak,an,az⟩) (valT_ok HRC.out HK.out) (HP6.out.below HB3.out (by omega))
end Go.Proofs.YtdhieihcmnpneaaGreatDoor
