/- What the types layer finds of a record and of a function. -/
import Derived.Test.YtdhieihcmnpneaaGreatDoorRows
import Derived.Test.YtdhieihcmnpneaaGreatDoorTypWt
import Derived.Test.YtdhieihcmnpneaaGreatDoorGStm
namespace Go.Proofs.YtdhieihcmnpneaaGreatDoor
set_option maxHeartbeats 1000000
set_option maxRecDepth 100000
open Go.RowKit
attribute [local go_sem ↓] Go.wp_at_zero Go.wp_at_succ
def ThE (p k:Int) (w:World) (e':Ending) (w':World):Prop:=e'=askE p k∧Below w.heap.size w w'
theorem fieldsE_step (e:En) (all:List ByteArray) (l:List Fd) (j:Nat) {f:Fd} (h:l[j]? = some f):fieldsE e all j (l.drop j)=if idx f.name all ≠ some j then 8 else if knownT e f.t=true then fieldsE e all (j+1) (l.drop (j+1)) else 9:=by
  obtain⟨l1,rfl⟩:=List.getElem?_eq_some_iff.1 h
  rw [List.drop_eq_getElem_cons l1]
  rfl
theorem idx_self {s:ByteArray}:∀ {l:List ByteArray},s ∈ l→∃ i,idx s l=some i
  | a :: r,h=>by
    unfold idx
    by_cases ha:a=s
    · exact⟨0,if_pos ha⟩
    · rw [if_neg ha]
      obtain⟨i,hi⟩:=idx_self (l:=r) (by rcases List.mem_cons.1 h with h|h;exact absurd h.symm ha;exact h)
      exact⟨i+1,by rw [hi];rfl⟩
theorem idx_eq {s:ByteArray} {l:List ByteArray} (h:s ∈ l) (j:Nat):(idxI s l == (j:Int))=decide (idx s l=some j):=by
  obtain⟨i,hi⟩:=idx_self h
  unfold idxI
  rw [hi]
  by_cases hij:i=j
  · subst hij;simp
  · rw [decide_eq_false (by simpa using hij)]
    exact beq_eq_false_iff_ne.2 (by simp;omega)
theorem record_any (i:Nat) (r:Rc) (c:Nat) (e:En) (tv:Value) (p:Int) (res:Ty) (w:World) (h:Tk c e tv p res w) (hr:e.records[i]? = some r) :
    Calls Tryz.prog 53 #[.pointer (some ⟨c,0,none⟩),.int .i64 (i:Int),.agg #[.string r.name,r.v]] w (ThE p (recE e i r) w):=by
  have hil:=(List.getElem?_eq_some_iff.1 hr).1
  have hmem:=List.mem_of_getElem? hr
  have hrin:=h.ein.records _ hmem
  obtain⟨ro,rc,er,hml0,hrg⟩:=hrin.lies.form
  obtain⟨nm,rv,fs⟩:=r
  simp only at er hml0 hrg
  obtain⟨M,hM⟩:∃ M,M=fs.length:=⟨_,rfl⟩
  have hlies:=hrin.lies
  have hfok:=hrin.fields
  simp only at hlies hfok
  rw [er,← hM] at hlies
  rw [← hM] at er hml0 hrg
  subst er
  obtain⟨W1,hW1⟩:∃ W1,W1=w.alloc (.cells #[.string nm,.slice ro M rc] 49):=⟨_,rfl⟩
  have hb1:Below w.heap.size w W1:=by rw [hW1];exact below_box w _
  have hz1:W1.heap.size=w.heap.size+1:=by rw [hW1];simp
  have hO:W1.heap[w.heap.size]? = some (.cells #[.string nm,.slice ro M rc] 49 (0,0)):=by rw [hW1];exact (MapKept.heap_alloc _ _).1
  obtain⟨b0,b1⟩:=own2 hO
  have hlt:=h.lt
  have h1:=h.kept hb1
  obtain⟨K,⟨-,-,-,-,q4,q5,-,-,q8,-,-,-⟩,-,hmr,-,-,hKn,hKl,hKg,hKm⟩:=h1.cells
  obtain⟨mr,hmr'⟩:∃ m,m=K.mr:=⟨_,rfl⟩
  rw [← hmr'] at q4 hmr
  obtain⟨m,hm1,hm2,-⟩:=hKm i _ hr
  obtain⟨hKa,hKg2,-⟩:=hKg (by omega)
  obtain⟨kg,hkg⟩:∃ g,g=K.g:=⟨_,rfl⟩
  obtain⟨kn,hkn⟩:∃ g,g=K.n:=⟨_,rfl⟩
  obtain⟨kc,hkc⟩:∃ g,g=K.cap:=⟨_,rfl⟩
  rw [hKa,← hkg,← hkn,← hkc] at q5
  rw [← hkg] at hm1 hKg2
  rw [← hkn] at hKn hKl
  simp only at hm2
  have hi1:(i:Int) < (kn:Int):=by omega
  have hi0:(0:Int)≤(i:Int):=by omega
  have hmrl:mr < w.heap.size+1:=by have:=hmr.lt;omega
  have HMR:=Lib.hid hmr
  have HM:=Lib.hid hm2
  have HT:=Lib.hid h1
  have HLI:=Lib.hid (hlies.below hb1)
  have HFO:=Lib.hid hfok
  have HG:=Lib.hid hrg
  have HN:=Lib.hid hM
  have HB:=Lib.hid hb1
  have HO:=Lib.hid hO
  have HW:=Lib.hid hW1
  have hnmem:nm ∈ rnames e.records:=by unfold rnames;exact List.mem_map.2 ⟨_,hmem,rfl⟩
  have hqe:=idx_eq hnmem i
  obtain⟨x,hx⟩:∃ x,x=recE e i ⟨nm,.slice ro M rc,fs⟩:=⟨_,rfl⟩
  rw [← hx]
  have hx2:x=if idx nm (rnames e.records) ≠ some i then 8 else fieldsE e (fnames fs) 0 fs:=by rw [hx];rfl
  have hq5:=q5
  have hm1':=hm1
  clear h hr hil hmem hrin hlies hfok hrg hM hb1 h1 hO hW1 hmr hmr' hKn hKg hKm hm2 hKa hkg hkn hkc hnmem hx
  by_cases hid:idx nm (rnames e.records)=some i
  rotate_left
  · have HR:=Lib.hid (show x=8 by rw [hx2,if_pos hid])
    rw [decide_eq_false hid] at hqe
    clear hid hx2
    go_enter Tryz.func53,Tryz.ntmps53
    go_wp2_with fail
    rw [← HW.out]
    refine wp_region_held_drew (S:=SameTo (w.heap.size+1) W1) (by kernel_rfl) (SameTo.drew _ _) (fun hSw=>?_)
    refine wt (i:=0) (oi:={ dst:=some 8,op:=Op.move (Operand.tmp 0),type:=73,pos := "check.go:88", after:=#[],guard:=none }) (v:=.pointer (some ⟨c,0,none⟩)) (fun W hW=>?_) hSw ?_
    · first|(go_simp;done)|rfl
    try simp only [Act.put,q1,q2,q3]
    refine wt (i:=1) (oi:={ dst:=some 9,op:=Op.move (Operand.tmp 0),type:=73,pos := "check.go:88", after:=#[],guard:=none }) (v:=.pointer (some ⟨c,0,none⟩)) (fun W hW=>?_) hSw ?_
    · first|(go_simp;done)|rfl
    try simp only [Act.put,q1,q2,q3]
    refine wt (i:=2) (oi:={ dst:=some 10,op:=Op.nilCheck (Operand.tmp 9),type:=0,pos := "check.go:88", after:=#[gd 1],guard:=none }) (v:=.pointer (some ⟨c,0,none⟩)) (fun W hW=>?_) hSw ?_
    · first|(go_simp;done)|rfl
    try simp only [Act.put,q1,q2,q3]
    refine wt (i:=3) (oi:={ dst:=some 11,op:=Op.fieldAddr 112 (Operand.tmp 10) 1,type:=0,pos := "check.go:88", after:=#[gd 2],guard:=none }) (v:=.pointer (some ⟨c,4,none⟩)) (fun W hW=>?_) hSw ?_
    · first|(go_simp;done)|rfl
    try simp only [Act.put,q1,q2,q3]
    refine wt (i:=4) (oi:={ dst:=some 12,op:=Op.load 104 (Operand.tmp 11),type:=104,pos := "check.go:88", after:=#[gd 3],guard:=none }) (v:=.map (some mr)) (fun W hW=>?_) hSw ?_
    · have q4:=hW.cell (by dsimp only;omega) q4
      first|(go_simp;done)|rfl
    try simp only [Act.put,q1,q2,q3]
    refine wt (i:=5) (oi:={ dst:=some 13,op:=Op.fieldAddr 49 (Operand.tmp 5) 0,type:=0,pos := "check.go:88", after:=#[],guard:=none }) (v:=.pointer (some ⟨w.heap.size,0,none⟩)) (fun W hW=>?_) hSw ?_
    · first|(go_simp;done)|rfl
    try simp only [Act.put,q1,q2,q3]
    refine wt (i:=6) (oi:={ dst:=some 14,op:=Op.load 9 (Operand.tmp 13),type:=9,pos := "check.go:88", after:=#[gd 5],guard:=none }) (v:=.string nm) (fun W hW=>?_) hSw ?_
    · have b0:=hW.cell (by dsimp only;omega) b0
      first|(go_simp;done)|rfl
    try simp only [Act.put,q1,q2,q3]
    refine wt (i:=7) (oi:={ dst:=some 15,op:=Op.lookup 104 (Operand.tmp 12) (Operand.tmp 14) false,type:=3,pos := "check.go:88", after:=#[gd 4,gd 6],guard:=none }) (v:=.int .i64 (idxI nm (rnames e.records))) (fun W hW=>?_) hSw ?_
    · have hlk:=look_nm HMR.out nm W (hW _ (by omega))
      first|(go_simp;done)|rfl
    try simp only [Act.put,q1,q2,q3]
    refine wt (i:=8) (oi:={ dst:=some 16,op:=Op.move (Operand.tmp 1),type:=3,pos := "check.go:88", after:=#[],guard:=none }) (v:=.int .i64 (i:Int)) (fun W hW=>?_) hSw ?_
    · first|(go_simp;done)|rfl
    try simp only [Act.put,q1,q2,q3]
    refine wt (i:=9) (oi:={ dst:=some 17,op:=Op.binOp BinOp.eql 3 (Operand.tmp 15) (Operand.tmp 16) 3,type:=4,pos := "check.go:88", after:=#[gd 7,gd 8],guard:=none }) (v:=.bool false) (fun W hW=>?_) hSw ?_
    · first|(go_simp;done)|rfl
    try simp only [Act.put,q1,q2,q3]
    refine wpAnyH_ready (rs:=[10]) (by kernel_rfl) (by simp) ?_
    refine AllReadyH.cons (o:={ dst:=some 18,op:=Op.call { callee:=Callee.value (Operand.func 54),args:=#[Operand.tmp 8,Operand.tmp 17,Operand.const (Value.int IntKind.i64 8)],argTypes:=#[73,4,37] },type:=0,pos := "check.go:88", after:=#[gd 0,gd 9],guard:=none }) rfl (fun K hK=>?_) AllReadyH.nil
    rw [if_pos (by rfl)]
    clear hSw
    go_simp
    refine (tmust_no c p 8 W1.drew q8).mono ?_;rintro e' w' ⟨rfl,rfl⟩
    exact⟨rfl,ask_no HR.out (by decide),HB.out.drew⟩
  have HX:=Lib.hid (show x=fieldsE e (fnames fs) 0 fs by rw [hx2,if_neg (fun q=>q hid)])
  rw [decide_eq_true hid] at hqe
  clear hid hx2
  go_enter Tryz.func53,Tryz.ntmps53
  go_wp2_with fail
  rw [← HW.out]
  refine wp_region_held_drew (S:=SameTo (w.heap.size+1) W1) (by kernel_rfl) (SameTo.drew _ _) (fun hSw=>?_)
  refine wt (i:=0) (oi:={ dst:=some 8,op:=Op.move (Operand.tmp 0),type:=73,pos := "check.go:88", after:=#[],guard:=none }) (v:=.pointer (some ⟨c,0,none⟩)) (fun W hW=>?_) hSw ?_
  · first|(go_simp;done)|rfl
  try simp only [Act.put,q1,q2,q3]
  refine wt (i:=1) (oi:={ dst:=some 9,op:=Op.move (Operand.tmp 0),type:=73,pos := "check.go:88", after:=#[],guard:=none }) (v:=.pointer (some ⟨c,0,none⟩)) (fun W hW=>?_) hSw ?_
  · first|(go_simp;done)|rfl
  try simp only [Act.put,q1,q2,q3]
  refine wt (i:=2) (oi:={ dst:=some 10,op:=Op.nilCheck (Operand.tmp 9),type:=0,pos := "check.go:88", after:=#[gd 1],guard:=none }) (v:=.pointer (some ⟨c,0,none⟩)) (fun W hW=>?_) hSw ?_
  · first|(go_simp;done)|rfl
  try simp only [Act.put,q1,q2,q3]
  refine wt (i:=3) (oi:={ dst:=some 11,op:=Op.fieldAddr 112 (Operand.tmp 10) 1,type:=0,pos := "check.go:88", after:=#[gd 2],guard:=none }) (v:=.pointer (some ⟨c,4,none⟩)) (fun W hW=>?_) hSw ?_
  · first|(go_simp;done)|rfl
  try simp only [Act.put,q1,q2,q3]
  refine wt (i:=4) (oi:={ dst:=some 12,op:=Op.load 104 (Operand.tmp 11),type:=104,pos := "check.go:88", after:=#[gd 3],guard:=none }) (v:=.map (some mr)) (fun W hW=>?_) hSw ?_
  · have q4:=hW.cell (by dsimp only;omega) q4
    first|(go_simp;done)|rfl
  try simp only [Act.put,q1,q2,q3]
  refine wt (i:=5) (oi:={ dst:=some 13,op:=Op.fieldAddr 49 (Operand.tmp 5) 0,type:=0,pos := "check.go:88", after:=#[],guard:=none }) (v:=.pointer (some ⟨w.heap.size,0,none⟩)) (fun W hW=>?_) hSw ?_
  · first|(go_simp;done)|rfl
  try simp only [Act.put,q1,q2,q3]
  refine wt (i:=6) (oi:={ dst:=some 14,op:=Op.load 9 (Operand.tmp 13),type:=9,pos := "check.go:88", after:=#[gd 5],guard:=none }) (v:=.string nm) (fun W hW=>?_) hSw ?_
  · have b0:=hW.cell (by dsimp only;omega) b0
    first|(go_simp;done)|rfl
  try simp only [Act.put,q1,q2,q3]
  refine wt (i:=7) (oi:={ dst:=some 15,op:=Op.lookup 104 (Operand.tmp 12) (Operand.tmp 14) false,type:=3,pos := "check.go:88", after:=#[gd 4,gd 6],guard:=none }) (v:=.int .i64 (idxI nm (rnames e.records))) (fun W hW=>?_) hSw ?_
  · have hlk:=look_nm HMR.out nm W (hW _ (by omega))
    first|(go_simp;done)|rfl
  try simp only [Act.put,q1,q2,q3]
  refine wt (i:=8) (oi:={ dst:=some 16,op:=Op.move (Operand.tmp 1),type:=3,pos := "check.go:88", after:=#[],guard:=none }) (v:=.int .i64 (i:Int)) (fun W hW=>?_) hSw ?_
  · first|(go_simp;done)|rfl
  try simp only [Act.put,q1,q2,q3]
  refine wt (i:=9) (oi:={ dst:=some 17,op:=Op.binOp BinOp.eql 3 (Operand.tmp 15) (Operand.tmp 16) 3,type:=4,pos := "check.go:88", after:=#[gd 7,gd 8],guard:=none }) (v:=.bool true) (fun W hW=>?_) hSw ?_
  · first|(go_simp;done)|rfl
  try simp only [Act.put,q1,q2,q3]
  refine wpAnyH_ready (rs:=[10]) (by kernel_rfl) (by simp) ?_
  refine AllReadyH.cons (o:={ dst:=some 18,op:=Op.call { callee:=Callee.value (Operand.func 54),args:=#[Operand.tmp 8,Operand.tmp 17,Operand.const (Value.int IntKind.i64 8)],argTypes:=#[73,4,37] },type:=0,pos := "check.go:88", after:=#[gd 0,gd 9],guard:=none }) rfl (fun K hK=>?_) AllReadyH.nil
  rw [if_pos (by rfl)]
  clear hSw
  go_simp
  refine (tmust_yes c 8 W1.drew).mono ?_;rintro e' w' ⟨rfl,rfl⟩
  refine hK.out _ _ (SameTo.drew _ _) (fun hSw=>?_)
  clear hK K
  try simp only [Act.put,q1,q2,q3]
  refine wpAnyH_done (by kernel_rfl) ?_ _
  clear q4 hqe
  go_wp2_with fail
  clear b0 b1 q5 q8 hm1
  go_loopw [22] (fun q wr=>∃ k:Nat,k≤M∧q = .int .i64 k∧Hid (x=fieldsE e (fnames fs) k (fs.drop k))∧Below W1.heap.size W1 wr) (fun q _=>M - (intOf q).toNat)
  case atStart=>exact⟨0,by omega,rfl,Lib.hid HX.out,(Below.refl _ _).drew⟩
  case round =>
    obtain⟨k,hkM,rfl,HF,hBr⟩:=hrel
    have hsr:=hBr.size
    by_cases hlt2:k < M
    · obtain⟨g,off,rfl,hg⟩:=HG.out (by omega)
      obtain⟨⟨fnm,⟨fk,fn,fz⟩⟩,hff⟩:∃ f,fs[k]? = some f:=⟨_,List.getElem?_eq_getElem (by rw [← HN.out];exact hlt2)⟩
      obtain⟨hgl,p0,p1,p2,p3⟩:=st_field2 (HLI.out.below (hBr.mono (by omega))) rfl hff
      have hstep:=fieldsE_step e (fnames fs) fs k hff
      have hfmem:fnm ∈ fnames fs:=by unfold fnames;exact List.mem_map.2 ⟨_,List.mem_of_getElem? hff,rfl⟩
      have hqe:=idx_eq hfmem k
      simp only at p0 p1 p2 p3 hstep
      obtain⟨W5,hW5⟩:∃ W5,W5=wr.alloc (.cells #[.string fnm,.int .u8 fk,.string fn,.int .i64 fz] 57):=⟨_,rfl⟩
      have hb5:Below wr.heap.size wr W5:=by rw [hW5];exact below_box wr _
      have hz5:W5.heap.size=wr.heap.size+1:=by rw [hW5];simp
      have hO5:W5.heap[wr.heap.size]? = some (.cells #[.string fnm,.int .u8 fk,.string fn,.int .i64 fz] 57 (0,0)):=by rw [hW5];exact (MapKept.heap_alloc _ _).1
      obtain⟨d0,d1,d2,d3⟩:=cells_prog _ _ _ _ hO5
      have hBB:=hBr.trans (hb5.mono hsr)
      have hTk5:=HT.out.kept hBB
      obtain⟨K5,⟨-,-,-,-,-,-,-,-,q8,-,-,-⟩,-⟩:=hTk5.cells
      have q5:W5.cell? ⟨c,5,none⟩ = some (.slice (some ⟨kg,0,none⟩) kn kc):=by rw [hBB.cell (p:=⟨c,5,none⟩) HT.out.lt];exact hq5
      have hm1:W5.cell? ⟨kg,i,none⟩ = some (.map (some m)):=by rw [hBB.cell (p:=⟨kg,i,none⟩) hKg2];exact hm1'
      have hm5:=HM.out.of (hBB.block _ HM.out.lt)
      have hml5:m < W5.heap.size:=hm5.lt
      have hkg5:kg < W5.heap.size:=by omega
      have hc5:c < W5.heap.size:=hTk5.lt
      have HM5:=Lib.hid hm5
      have HT5:=Lib.hid hTk5
      have HB5:=Lib.hid (HB.out.trans (hBB.mono (by omega)))
      have HBB:=Lib.hid hBB
      have HO5:=Lib.hid hO5
      have HW5:=Lib.hid hW5
      have HST:=Lib.hid (HF.out.trans hstep)
      have hgs:g < wr.heap.size:=by omega
      have hwz:wr.heap.size < W5.heap.size:=by omega
      clear hff hfmem hstep hb5 hO5 hW5 hBB hTk5 hm5 hBr HF
      by_cases hid:idx fnm (fnames fs)=some k
      rotate_left
      · have HR5:=Lib.hid (show x=8 by rw [HST.out,if_pos hid])
        rw [decide_eq_false hid] at hqe
        clear hid
        go_wp2_with fail
        rw [← HW5.out]
        refine wp_region_held_drew (S:=SameTo (W5.heap.size) W5) (by kernel_rfl) (SameTo.drew _ _) (fun hSw=>?_)
        refine wt (i:=0) (oi:={ dst:=some 27,op:=Op.move (Operand.tmp 0),type:=73,pos := "check.go:90", after:=#[],guard:=none }) (v:=.pointer (some ⟨c,0,none⟩)) (fun W hW=>?_) hSw ?_
        · first|(go_simp;done)|rfl
        try simp only [Act.put,q1,q2,q3]
        refine wt (i:=1) (oi:={ dst:=some 28,op:=Op.move (Operand.tmp 0),type:=73,pos := "check.go:90", after:=#[],guard:=none }) (v:=.pointer (some ⟨c,0,none⟩)) (fun W hW=>?_) hSw ?_
        · first|(go_simp;done)|rfl
        try simp only [Act.put,q1,q2,q3]
        refine wt (i:=2) (oi:={ dst:=some 29,op:=Op.nilCheck (Operand.tmp 28),type:=0,pos := "check.go:90", after:=#[gd 1],guard:=none }) (v:=.pointer (some ⟨c,0,none⟩)) (fun W hW=>?_) hSw ?_
        · first|(go_simp;done)|rfl
        try simp only [Act.put,q1,q2,q3]
        refine wt (i:=3) (oi:={ dst:=some 30,op:=Op.fieldAddr 112 (Operand.tmp 29) 2,type:=0,pos := "check.go:90", after:=#[gd 2],guard:=none }) (v:=.pointer (some ⟨c,5,none⟩)) (fun W hW=>?_) hSw ?_
        · first|(go_simp;done)|rfl
        try simp only [Act.put,q1,q2,q3]
        refine wt (i:=4) (oi:={ dst:=some 31,op:=Op.load 110 (Operand.tmp 30),type:=110,pos := "check.go:90", after:=#[gd 3],guard:=none }) (v:=.slice (some ⟨kg,0,none⟩) kn kc) (fun W hW=>?_) hSw ?_
        · have q5:=hW.cell (by dsimp only;omega) q5
          first|(go_simp;done)|rfl
        try simp only [Act.put,q1,q2,q3]
        refine wt (i:=5) (oi:={ dst:=some 32,op:=Op.move (Operand.tmp 1),type:=3,pos := "check.go:90", after:=#[],guard:=none }) (v:=.int .i64 (i:Int)) (fun W hW=>?_) hSw ?_
        · first|(go_simp;done)|rfl
        try simp only [Act.put,q1,q2,q3]
        refine wt (i:=6) (oi:={ dst:=some 33,op:=Op.indexAddr 110 (Operand.tmp 31) (Operand.tmp 32),type:=0,pos := "check.go:90", after:=#[gd 4,gd 5],guard:=none }) (v:=.pointer (some ⟨kg,i,none⟩)) (fun W hW=>?_) hSw ?_
        · first|(go_simp;done)|rfl
        try simp only [Act.put,q1,q2,q3]
        refine wt (i:=7) (oi:={ dst:=some 34,op:=Op.load 104 (Operand.tmp 33),type:=104,pos := "check.go:90", after:=#[gd 6],guard:=none }) (v:=.map (some m)) (fun W hW=>?_) hSw ?_
        · have hm1:=hW.cell (by dsimp only;omega) hm1
          first|(go_simp;done)|rfl
        try simp only [Act.put,q1,q2,q3]
        refine wt (i:=8) (oi:={ dst:=some 35,op:=Op.fieldAddr 57 (Operand.tmp 7) 0,type:=0,pos := "check.go:90", after:=#[],guard:=none }) (v:=.pointer (some ⟨wr.heap.size,0,none⟩)) (fun W hW=>?_) hSw ?_
        · first|(go_simp;done)|rfl
        try simp only [Act.put,q1,q2,q3]
        refine wt (i:=9) (oi:={ dst:=some 36,op:=Op.load 9 (Operand.tmp 35),type:=9,pos := "check.go:90", after:=#[gd 8],guard:=none }) (v:=.string fnm) (fun W hW=>?_) hSw ?_
        · have d0:=hW.cell (by dsimp only;omega) d0
          first|(go_simp;done)|rfl
        try simp only [Act.put,q1,q2,q3]
        refine wt (i:=10) (oi:={ dst:=some 37,op:=Op.lookup 104 (Operand.tmp 34) (Operand.tmp 36) false,type:=3,pos := "check.go:90", after:=#[gd 7,gd 9],guard:=none }) (v:=.int .i64 (idxI fnm (fnames fs))) (fun W hW=>?_) hSw ?_
        · have hlk:=look_nm HM5.out fnm W (hW _ (by omega))
          first|(go_simp;done)|rfl
        try simp only [Act.put,q1,q2,q3]
        refine wt (i:=11) (oi:={ dst:=some 38,op:=Op.move (Operand.tmp 6),type:=3,pos := "check.go:90", after:=#[],guard:=none }) (v:=.int .i64 (k:Int)) (fun W hW=>?_) hSw ?_
        · first|(go_simp;done)|rfl
        try simp only [Act.put,q1,q2,q3]
        refine wt (i:=12) (oi:={ dst:=some 39,op:=Op.binOp BinOp.eql 3 (Operand.tmp 37) (Operand.tmp 38) 3,type:=4,pos := "check.go:90", after:=#[gd 10,gd 11],guard:=none }) (v:=.bool false) (fun W hW=>?_) hSw ?_
        · first|(go_simp;done)|rfl
        try simp only [Act.put,q1,q2,q3]
        refine wpAnyH_ready (rs:=[13]) (by kernel_rfl) (by simp) ?_
        refine AllReadyH.cons (o:={ dst:=some 40,op:=Op.call { callee:=Callee.value (Operand.func 54),args:=#[Operand.tmp 27,Operand.tmp 39,Operand.const (Value.int IntKind.i64 8)],argTypes:=#[73,4,37] },type:=0,pos := "check.go:90", after:=#[gd 0,gd 12],guard:=none }) rfl (fun K hK=>?_) AllReadyH.nil
        rw [if_pos (by rfl)]
        clear hSw
        go_simp
        refine (tmust_no c p 8 W5.drew q8).mono ?_;rintro e' w' ⟨rfl,rfl⟩
        exact⟨rfl,ask_no HR5.out (by decide),HB5.out.drew⟩
      have HR5:=Lib.hid (show x=if knownT e ⟨fk,fn,fz⟩ = true then fieldsE e (fnames fs) (k+1) (fs.drop (k+1)) else 9 by rw [HST.out,if_neg (fun q=>q hid)])
      rw [decide_eq_true hid] at hqe
      clear hid
      go_wp2_with fail
      rw [← HW5.out]
      refine wp_region_held_drew (S:=SameTo (W5.heap.size) W5) (by kernel_rfl) (SameTo.drew _ _) (fun hSw=>?_)
      refine wt (i:=0) (oi:={ dst:=some 27,op:=Op.move (Operand.tmp 0),type:=73,pos := "check.go:90", after:=#[],guard:=none }) (v:=.pointer (some ⟨c,0,none⟩)) (fun W hW=>?_) hSw ?_
      · first|(go_simp;done)|rfl
      try simp only [Act.put,q1,q2,q3]
      refine wt (i:=1) (oi:={ dst:=some 28,op:=Op.move (Operand.tmp 0),type:=73,pos := "check.go:90", after:=#[],guard:=none }) (v:=.pointer (some ⟨c,0,none⟩)) (fun W hW=>?_) hSw ?_
      · first|(go_simp;done)|rfl
      try simp only [Act.put,q1,q2,q3]
      refine wt (i:=2) (oi:={ dst:=some 29,op:=Op.nilCheck (Operand.tmp 28),type:=0,pos := "check.go:90", after:=#[gd 1],guard:=none }) (v:=.pointer (some ⟨c,0,none⟩)) (fun W hW=>?_) hSw ?_
      · first|(go_simp;done)|rfl
      try simp only [Act.put,q1,q2,q3]
      refine wt (i:=3) (oi:={ dst:=some 30,op:=Op.fieldAddr 112 (Operand.tmp 29) 2,type:=0,pos := "check.go:90", after:=#[gd 2],guard:=none }) (v:=.pointer (some ⟨c,5,none⟩)) (fun W hW=>?_) hSw ?_
      · first|(go_simp;done)|rfl
      try simp only [Act.put,q1,q2,q3]
      refine wt (i:=4) (oi:={ dst:=some 31,op:=Op.load 110 (Operand.tmp 30),type:=110,pos := "check.go:90", after:=#[gd 3],guard:=none }) (v:=.slice (some ⟨kg,0,none⟩) kn kc) (fun W hW=>?_) hSw ?_
      · have q5:=hW.cell (by dsimp only;omega) q5
        first|(go_simp;done)|rfl
      try simp only [Act.put,q1,q2,q3]
      refine wt (i:=5) (oi:={ dst:=some 32,op:=Op.move (Operand.tmp 1),type:=3,pos := "check.go:90", after:=#[],guard:=none }) (v:=.int .i64 (i:Int)) (fun W hW=>?_) hSw ?_
      · first|(go_simp;done)|rfl
      try simp only [Act.put,q1,q2,q3]
      refine wt (i:=6) (oi:={ dst:=some 33,op:=Op.indexAddr 110 (Operand.tmp 31) (Operand.tmp 32),type:=0,pos := "check.go:90", after:=#[gd 4,gd 5],guard:=none }) (v:=.pointer (some ⟨kg,i,none⟩)) (fun W hW=>?_) hSw ?_
      · first|(go_simp;done)|rfl
      try simp only [Act.put,q1,q2,q3]
      refine wt (i:=7) (oi:={ dst:=some 34,op:=Op.load 104 (Operand.tmp 33),type:=104,pos := "check.go:90", after:=#[gd 6],guard:=none }) (v:=.map (some m)) (fun W hW=>?_) hSw ?_
      · have hm1:=hW.cell (by dsimp only;omega) hm1
        first|(go_simp;done)|rfl
      try simp only [Act.put,q1,q2,q3]
      refine wt (i:=8) (oi:={ dst:=some 35,op:=Op.fieldAddr 57 (Operand.tmp 7) 0,type:=0,pos := "check.go:90", after:=#[],guard:=none }) (v:=.pointer (some ⟨wr.heap.size,0,none⟩)) (fun W hW=>?_) hSw ?_
      · first|(go_simp;done)|rfl
      try simp only [Act.put,q1,q2,q3]
      refine wt (i:=9) (oi:={ dst:=some 36,op:=Op.load 9 (Operand.tmp 35),type:=9,pos := "check.go:90", after:=#[gd 8],guard:=none }) (v:=.string fnm) (fun W hW=>?_) hSw ?_
      · have d0:=hW.cell (by dsimp only;omega) d0
        first|(go_simp;done)|rfl
      try simp only [Act.put,q1,q2,q3]
      refine wt (i:=10) (oi:={ dst:=some 37,op:=Op.lookup 104 (Operand.tmp 34) (Operand.tmp 36) false,type:=3,pos := "check.go:90", after:=#[gd 7,gd 9],guard:=none }) (v:=.int .i64 (idxI fnm (fnames fs))) (fun W hW=>?_) hSw ?_
      · have hlk:=look_nm HM5.out fnm W (hW _ (by omega))
        first|(go_simp;done)|rfl
      try simp only [Act.put,q1,q2,q3]
      refine wt (i:=11) (oi:={ dst:=some 38,op:=Op.move (Operand.tmp 6),type:=3,pos := "check.go:90", after:=#[],guard:=none }) (v:=.int .i64 (k:Int)) (fun W hW=>?_) hSw ?_
      · first|(go_simp;done)|rfl
      try simp only [Act.put,q1,q2,q3]
      refine wt (i:=12) (oi:={ dst:=some 39,op:=Op.binOp BinOp.eql 3 (Operand.tmp 37) (Operand.tmp 38) 3,type:=4,pos := "check.go:90", after:=#[gd 10,gd 11],guard:=none }) (v:=.bool true) (fun W hW=>?_) hSw ?_
      · first|(go_simp;done)|rfl
      try simp only [Act.put,q1,q2,q3]
      refine wpAnyH_ready (rs:=[13]) (by kernel_rfl) (by simp) ?_
      refine AllReadyH.cons (o:={ dst:=some 40,op:=Op.call { callee:=Callee.value (Operand.func 54),args:=#[Operand.tmp 27,Operand.tmp 39,Operand.const (Value.int IntKind.i64 8)],argTypes:=#[73,4,37] },type:=0,pos := "check.go:90", after:=#[gd 0,gd 12],guard:=none }) rfl (fun K hK=>?_) AllReadyH.nil
      rw [if_pos (by rfl)]
      clear hSw
      go_simp
      refine (tmust_yes c 8 W5.drew).mono ?_;rintro e' w' ⟨rfl,rfl⟩
      refine hK.out _ _ (SameTo.drew _ _) (fun hSw=>?_)
      clear hK K
      try simp only [Act.put,q1,q2,q3]
      refine wpAnyH_done (by kernel_rfl) ?_ _
      clear q5 hm1 hqe
      go_wp2_with fail
      refine (known_any c e tv p res ⟨fk,fn,fz⟩ W5.drew HT5.out.drew).mono ?_;rintro e' w6 ⟨he,hb6⟩
      replace hb6:Below W5.heap.size W5 w6:=below_tape hb6
      have HB6:=Lib.hid (HBB.out.trans (hb6.mono (by omega)))
      clear hb6
      by_cases hkn:knownT e ⟨fk,fn,fz⟩ = true
      · have HR6:=Lib.hid (show x=fieldsE e (fnames fs) (k+1) (fs.drop (k+1)) by rw [HR5.out,if_pos hkn])
        rw [show knownE e ⟨fk,fn,fz⟩ = 0 from if_pos hkn,askE_0 rfl] at he
        subst he
        clear hkn d0 d1 d2 d3 p0 p1 p2 p3 q8
        go_wp2_with fail
        go_roundw
        case rel=>exact⟨k+1,by omega,by go_num,HR6,HB6.out⟩
        case measure=>simp [intOf];omega
      · rw [show knownE e ⟨fk,fn,fz⟩ = 9 from if_neg hkn,askE_no (by decide)] at he
        subst he
        exact⟨rfl,ask_no (show x=9 by rw [HR5.out,if_neg hkn]) (by decide),HB.out.trans (HB6.out.mono (by omega))⟩
    · have HR6:=Lib.hid (show x=0 by rw [HF.out,List.drop_eq_nil_of_le (by rw [← HN.out];omega)];rfl)
      have HB6:=Lib.hid (HB.out.trans (hBr.mono (by omega)))
      clear hBr HF
      go_wp2_with fail
      go_end0
      exact⟨ask_yes HR6.out,HB6.out⟩
end Go.Proofs.YtdhieihcmnpneaaGreatDoor
