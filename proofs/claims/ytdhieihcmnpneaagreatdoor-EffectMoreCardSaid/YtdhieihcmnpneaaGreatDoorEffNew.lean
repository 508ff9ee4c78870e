/- What package effect begins with: three maps, of what is shared, of the functions' bodies, and of what is met. -/
import Derived.Test.YtdhieihcmnpneaaGreatDoorRows
import Derived.Test.YtdhieihcmnpneaaGreatDoorTypWt
import Derived.Test.YtdhieihcmnpneaaGreatDoorEffDoes
import Derived.Test.YtdhieihcmnpneaaGreatDoorEffOwn
namespace Go.Proofs.YtdhieihcmnpneaaGreatDoor
open Lib (hid)
set_option maxHeartbeats 8000000
open Go.RowKit
set_option maxRecDepth 100000
structure NewE (w W:World) (d ms mb mm:Nat):Prop where
  own:W.heap[d]? = some (.cells #[.map (some ms),.map (some mb),.map (some mm)] 83 (0,0))
  s:IsMapT W ms []
  b:IsMapT W mb []
  m:IsMapT W mm []
  ne:d ≠ ms∧d ≠ mb∧d ≠ mm∧ms ≠ mb∧ms ≠ mm∧mb ≠ mm
  new:w.heap.size≤ms∧w.heap.size≤mb∧w.heap.size≤mm∧w.heap.size≤d
  below:Below w.heap.size w W
theorem new4 (w:World) (o1 o2 o3 o4:Obj):((((w.alloc o1).alloc o2).alloc o3).alloc o4).drew.heap[w.heap.size]? = some o1∧((((w.alloc o1).alloc o2).alloc o3).alloc o4).drew.heap[w.heap.size+1]? = some o2∧((((w.alloc o1).alloc o2).alloc o3).alloc o4).drew.heap[w.heap.size+1+1]? = some o3 ∧
    ((((w.alloc o1).alloc o2).alloc o3).alloc o4).drew.heap[w.heap.size+1+1+1]? = some o4∧Below w.heap.size w ((((w.alloc o1).alloc o2).alloc o3).alloc o4).drew:=by
  refine⟨?_, ?_, ?_, ?_,((((below_box w o1).alloc (by simp) o2).alloc (by simp <;> omega) o3).alloc (by simp <;> omega) o4).drew⟩
  · show ((((w.alloc o1).alloc o2).alloc o3).alloc o4).heap[_]? = _
    rw [Below.heap_alloc _ _ _ (by simp <;> omega),Below.heap_alloc _ _ _ (by simp <;> omega),Below.heap_alloc _ _ _ (by simp)];exact (MapKept.heap_alloc w o1).1
  · show ((((w.alloc o1).alloc o2).alloc o3).alloc o4).heap[_]? = _
    rw [Below.heap_alloc _ _ _ (by simp <;> omega),Below.heap_alloc _ _ _ (by simp)];have:=(MapKept.heap_alloc (w.alloc o1) o2).1;simpa using this
  · show ((((w.alloc o1).alloc o2).alloc o3).alloc o4).heap[_]? = _
    rw [Below.heap_alloc _ _ _ (by simp)];have:=(MapKept.heap_alloc ((w.alloc o1).alloc o2) o3).1;simpa using this
  · show ((((w.alloc o1).alloc o2).alloc o3).alloc o4).heap[_]? = _
    have:=(MapKept.heap_alloc (((w.alloc o1).alloc o2).alloc o3) o4).1;simpa using this
theorem newE (w:World) (i j k:Nat) (h:(i=0∧j=1∧k=2) ∨ (i=0∧j=2∧k=1) ∨ (i=1∧j=0∧k=2) ∨ (i=1∧j=2∧k=0) ∨ (i=2∧j=0∧k=1) ∨ (i=2∧j=1∧k=0)) (ms mb mm d:Nat) (e1:ms=w.heap.size+i) (e2:mb=w.heap.size+j) (e3:mm=w.heap.size+k) (e4:d=w.heap.size+3) :
    NewE w ((((w.alloc (.map #[] 0)).alloc (.map #[] 0)).alloc (.map #[] 0)).alloc (.cells #[.map (some ms),.map (some mb),.map (some mm)] 83)).drew d ms mb mm:=by
  obtain⟨h0,h1,h2,h3,h4⟩:=new4 w (.map #[] 0) (.map #[] 0) (.map #[] 0) (.cells #[.map (some ms),.map (some mb),.map (some mm)] 83)
  have hm:∀ g,(g=w.heap.size ∨ g=w.heap.size+1 ∨ g=w.heap.size+2)→IsMapT ((((w.alloc (.map #[] 0)).alloc (.map #[] 0)).alloc (.map #[] 0)).alloc (.cells #[.map (some ms),.map (some mb),.map (some mm)] 83)).drew g []:=fun g hg=>by
    rcases hg with rfl|rfl|rfl
    · exact⟨#[],0,h0,rfl,rfl⟩
    · exact⟨#[],0,h1,rfl,rfl⟩
    · exact⟨#[],0,h2,rfl,rfl⟩
  refine⟨by rw [e4];exact h3,hm _ (by omega),hm _ (by omega),hm _ (by omega),by omega,by omega,h4⟩
theorem makeM (t:TypeId) (n:Nat) (kt et:TypeId) (ht:Tryz.prog.underlying t=some (.map kt et)) (w:World):(Instr.makeMap t (some (.int .i64 (n:Int)))).run Tryz.prog w = .ok (.map (some w.heap.size)) (w.alloc (.map #[] 0)):=by
  simp [Instr.makeMap,go_sem,run_underlying ht,Result.andThen]
theorem IsSt.congr {w:World} {m:Nat} {Q Q':ByteArray→Bool} (h:IsSt w m Q) (k:∀ x,Q x=Q' x):IsSt w m Q':=by obtain⟨kv,h1,h2⟩:=h;exact⟨kv,h1,fun s=>by rw [h2,k]⟩
theorem put_st {w:World} {m:Nat} {Q:ByteArray→Bool} (h:IsSt w m Q) (s:ByteArray):∃ w',(Instr.mapUpdate 79 (.map (some m)) (.string s) (.agg #[])).run Tryz.prog w = .ok () w'∧IsSt w' m (fun x=>decide (x=s) || Q x)∧w.grownBy w' (some m):=by
  obtain⟨kv,h,h2⟩:=h
  obtain⟨w',l',h3,h4,h5,h6⟩:=run_updT (P:=Tryz.prog) uSetF uKeyN h s (.agg #[])
  refine⟨w',h3,⟨l',h4,fun x=>?_⟩,h6⟩
  rw [h5,h2]
  by_cases hx:x=s
  · simp [hx]
  · simp [hx]
theorem fnN_snoc (f:Fn) (x:ByteArray) (l:List Fn):fnN (l ++ [f]) x=match fnN l x with|some g=>some g|none=>if f.name=x then some f else none:=by
  unfold fnN
  rw [List.find?_append]
  cases l.find? (fun f=>decide (f.name=x)) with
  | some g=>rfl
  | none=>simp only [Option.none_or,List.find?_cons,List.find?_nil];by_cases h:f.name=x <;> simp [h]
theorem fnN_front {l r:List Fn} {x:ByteArray} {g:Fn} (h:fnN l x=some g):fnN (l ++ r) x=some g:=by
  unfold fnN at h ⊢
  rw [List.find?_append,h];rfl
theorem put_bd {w:World} {m:Nat} {l r:List Fn} {f:Fn} (h:IsBd w m l) (hf:fnN (l ++ f :: r) f.name=some f):∃ w',(Instr.mapUpdate 80 (.map (some m)) (.string f.name) f.bv).run Tryz.prog w = .ok () w'∧IsBd w' m (l ++ [f])∧w.grownBy w' (some m):=by
  obtain⟨kv,h,h2⟩:=h
  obtain⟨w',l',h3,h4,h5,h6⟩:=run_updT (P:=Tryz.prog) uBodF uKeyN h f.name f.bv
  refine⟨w',h3,⟨l',h4,fun x=>?_⟩,h6⟩
  rw [h5,h2,fnN_snoc]
  by_cases hx:x=f.name
  · subst hx
    rw [if_pos rfl]
    cases hg:fnN l f.name with
    | none=>simp
    | some g =>
      have:=fnN_front (r:=f :: r) hg
      rw [hf] at this
      cases this;rfl
  · rw [if_neg hx]
    cases hg:fnN l x with
    | some g=>rfl
    | none=>simp only;rw [if_neg (fun h=>hx h.symm)]
structure NewK (P:Pr) (k1 k2:Nat) (w W:World) (d ms mb mm:Nat):Prop where
  own:W.heap[d]? = some (.cells #[.map (some ms),.map (some mb),.map (some mm)] 83 (0,0))
  s:IsSt W ms (fun s=>has s (fnames (P.e.shared.take k1)))
  b:IsBd W mb (P.e.funcs.take k2)
  m:IsMapT W mm []
  ne:d ≠ ms∧d ≠ mb∧d ≠ mm∧ms ≠ mb∧ms ≠ mm∧mb ≠ mm
  new:w.heap.size≤ms∧w.heap.size≤mb∧w.heap.size≤mm∧w.heap.size≤d
  below:Below w.heap.size w W
theorem NewE.start {P:Pr} {w W:World} {d ms mb mm:Nat} (h:NewE w W d ms mb mm):NewK P 0 0 w W d ms mb mm:=
  ⟨h.own,⟨[],h.s,fun s=>by simp [lookT,fnames,has]⟩,⟨[],h.b,fun s=>by simp [lookT,fnN]⟩,h.m,h.ne,h.new,h.below⟩
theorem NewK.lt {P:Pr} {k1 k2:Nat} {w W:World} {d ms mb mm:Nat} (h:NewK P k1 k2 w W d ms mb mm):d < W.heap.size∧ms < W.heap.size∧mb < W.heap.size∧mm < W.heap.size:=⟨(Array.getElem?_eq_some_iff.1 h.own).1,h.s.lt,h.b.lt,h.m.lt⟩
theorem NewK.keeps {P:Pr} {k1 k2:Nat} {w W W':World} {d ms mb mm:Nat} (h:NewK P k1 k2 w W d ms mb mm) (hb:Below W.heap.size W W'):NewK P k1 k2 w W' d ms mb mm:=by
  obtain⟨l1,l2,l3,l4⟩:=h.lt
  exact⟨(hb.block d l1).trans h.own,h.s.of (hb.block ms l2),h.b.of (hb.block mb l3),h.m.of (hb.block mm l4),h.ne,h.new,h.below.trans (hb.mono h.below.size)⟩
theorem NewK.shared {P:Pr} {k1 k2:Nat} {w W W':World} {d ms mb mm:Nat} {Q:ByteArray→Bool} (h:NewK P k1 k2 w W d ms mb mm) (hg:W.grownBy W' (some ms)) (hS:IsSt W' ms Q) (hQ:∀ x,Q x=has x (fnames (P.e.shared.take (k1+1)))):NewK P (k1+1) k2 w W' d ms mb mm:=by
  obtain⟨l1,l2,l3,l4⟩:=h.lt
  obtain⟨n1,n2,n3,n4,n5,n6⟩:=h.ne
  have hk:=Wr.of_grown (S:=fun g=>g=ms) hg rfl
  exact⟨(hk.block d l1 (by omega)).trans h.own,hS.congr hQ,h.b.of (hk.block mb l3 (by omega)),h.m.of (hk.block mm l4 (by omega)),h.ne,h.new,h.below.grown hg h.below.size (fun k e=>by cases e;exact h.new.1)⟩
theorem NewK.bodies {P:Pr} {k1 k2:Nat} {w W W':World} {d ms mb mm:Nat} (h:NewK P k1 k2 w W d ms mb mm) (hg:W.grownBy W' (some mb)) (hS:IsBd W' mb (P.e.funcs.take (k2+1))):NewK P k1 (k2+1) w W' d ms mb mm:=by
  obtain⟨l1,l2,l3,l4⟩:=h.lt
  obtain⟨n1,n2,n3,n4,n5,n6⟩:=h.ne
  have hk:=Wr.of_grown (S:=fun g=>g=mb) hg rfl
  exact⟨(hk.block d l1 (by omega)).trans h.own,h.s.of (hk.block ms l2 (by omega)),hS,h.m.of (hk.block mm l4 (by omega)),h.ne,h.new,h.below.grown hg h.below.size (fun k e=>by cases e;exact h.new.2.1)⟩
theorem has_snoc (x a:ByteArray) (l:List ByteArray):has x (l ++ [a])=(decide (x=a) || has x l):=by
  unfold has
  rw [List.any_append]
  simp only [List.any_cons,List.any_nil,Bool.or_false]
  rw [Bool.or_comm]
  congr 1
  by_cases h:a=x
  · simp [h]
  · have h2:¬ x=a:=fun h2=>h h2.symm
    simp [h,h2]
theorem cells4F {f:Fd} {w:World} {g o:Nat} (h:∀ j u,f.cells[j]? = some u→w.cell? ⟨g,o+j,none⟩ = some u) :
    w.cell? ⟨g,o,none⟩ = some (.string f.name)∧w.cell? ⟨g,o+1,none⟩ = some (.int .u8 f.t.k)∧w.cell? ⟨g,o+2,none⟩ = some (.string f.t.n)∧w.cell? ⟨g,o+3,none⟩ = some (.int .i64 f.t.z):=
  ⟨h 0 _ rfl,h 1 _ rfl,h 2 _ rfl,h 3 _ rfl⟩
theorem cells6F {f:Fn} {w:World} {g o:Nat} (h:∀ j u,f.cells[j]? = some u→w.cell? ⟨g,o+j,none⟩ = some u) :
    w.cell? ⟨g,o,none⟩ = some (.string f.name)∧w.cell? ⟨g,o+1,none⟩ = some f.pv∧w.cell? ⟨g,o+2,none⟩ = some (.int .u8 f.res.k)∧w.cell? ⟨g,o+3,none⟩ = some (.string f.res.n)∧w.cell? ⟨g,o+4,none⟩ = some (.int .i64 f.res.z)∧w.cell? ⟨g,o+5,none⟩ = some f.bv:=
  ⟨h 0 _ rfl,h 1 _ rfl,h 2 _ rfl,h 3 _ rfl,h 4 _ rfl,h 5 _ rfl⟩
theorem own4F {w:World} {b:Nat} {T:TypeId} {fr:Nat × Nat} {a0 a1 a2 a3:Value} (h:w.heap[b]? = some (.cells #[a0,a1,a2,a3] T fr)):w.cell? ⟨b,0,none⟩ = some a0:=by rw [Lib.cell_of_heap h];rfl
theorem own6F {w:World} {b:Nat} {T:TypeId} {fr:Nat × Nat} {a0 a1 a2 a3 a4 a5:Value} (h:w.heap[b]? = some (.cells #[a0,a1,a2,a3,a4,a5] T fr)):w.cell? ⟨b,0,none⟩ = some a0∧w.cell? ⟨b,2,none⟩ = some a2∧w.cell? ⟨b,5,none⟩ = some a5:=⟨by rw [Lib.cell_of_heap h];rfl,by rw [Lib.cell_of_heap h];rfl,by rw [Lib.cell_of_heap h];rfl⟩
theorem new_effects (P:Pr) (B:Nat) (w:World) (hBw:B≤w.heap.size) (hI:PIn w B P) (hF:Fits P) :
    Calls Tryz.prog 15 #[.agg #[P.e.rv,P.e.sv,P.e.fv,P.tv]] w fun x w'=>∃ d ms mb mm,x = .returned (.pointer (some ⟨d,0,none⟩))∧Ds P.e B d ms mb mm w'∧w.heap.size≤d∧w.heap.size≤mm∧Below w.heap.size w w':=by
  obtain⟨so,sc,es,hsl,hsg⟩:=hI.e.slies.form
  obtain⟨fo,fc,ef,hfl,hfg⟩:=hI.e.flies.form
  have HSL:=hid hI.e.slies
  have HFL:=hid hI.e.flies
  have HFI:=hid hI.e.funcs
  obtain⟨rv,hrv⟩:∃ v,v=P.e.rv:=⟨_,rfl⟩
  obtain⟨tv,htv⟩:∃ v,v=P.tv:=⟨_,rfl⟩
  rw [es,ef,← hrv,← htv]
  rw [es] at HSL
  rw [ef] at HFL
  obtain⟨N2,hN2⟩:∃ N,N=P.e.shared.length:=⟨_,rfl⟩
  obtain⟨N3,hN3⟩:∃ N,N=P.e.funcs.length:=⟨_,rfl⟩
  rw [← hN2] at hsl hsg HSL ⊢
  rw [← hN3] at hfl hfg HFL ⊢
  obtain⟨W1,hW1⟩:∃ W1,W1=w.alloc (.cells #[rv,.slice so N2 sc,.slice fo N3 fc,tv] 27):=⟨_,rfl⟩
  have hb1:Below w.heap.size w W1:=by rw [hW1];exact below_box w _
  have hz1:W1.heap.size=w.heap.size+1:=by rw [hW1];simp
  have hO1:W1.heap[w.heap.size]? = some (.cells #[rv,.slice so N2 sc,.slice fo N3 fc,tv] 27 (0,0)):=by rw [hW1];exact (MapKept.heap_alloc _ _).1
  obtain⟨q0,q1,q2,q3⟩:=cells_prog _ _ _ _ hO1
  have HW1:=hid hW1
  have HB1:=hid hb1
  have HO1:=hid hO1
  have HFF:=hid hF
  have HN2:=hid hN2
  have HN3:=hid hN3
  have HGS:=hid hsg
  have HGF:=hid hfg
  have mk1:=makeM 79 N2 _ _ uSetF
  have mk2:=makeM 80 N3 _ _ uBodF
  have mk3:=makeM 81 N3 _ _ uEffF
  clear hI hF es ef hrv htv hN2 hN3 hsg hfg hb1 hO1 hW1
  go_enter Tryz.func15,Tryz.ntmps15
  go_wp2_with fail
  rw [← HW1.out]
  refine Code.wp_mono (Q:=Exit.then (fun a W=>∃ d ms mb mm:Nat,a=⟨#[.agg #[rv,.slice so N2 sc,.slice fo N3 fc,tv],.pointer (some ⟨w.heap.size,0,none⟩),.pointer none,.pointer (some ⟨d,0,none⟩),undef,undef,undef,undef,.pointer (some ⟨w.heap.size,1,none⟩),.slice so N2 sc,.int .i64 N2,.map (some ms),.pointer (some ⟨w.heap.size,2,none⟩),.slice fo N3 fc,.int .i64 N3,.map (some mb),.pointer (some ⟨w.heap.size,2,none⟩),.slice fo N3 fc,.int .i64 N3,.map (some mm),.agg #[.map (some ms),.map (some mb),.map (some mm)],.pointer (some ⟨d,0,none⟩),undef,undef,undef,undef,undef,undef,undef,undef,undef,undef,undef,undef,undef,undef,undef,undef,undef,undef,undef,undef,undef,undef,undef,undef,undef,undef,undef,undef,undef,undef,undef,undef],[]⟩ ∧ NewE W1 W d ms mb mm) (fun _ _ _=>False)) (fun e a W h=>?_) ?_
  rotate_left
  · skip
    refine wp_region_held_drew (S:=SameTo (W1.heap.size) W1) (by kernel_rfl) (SameTo.drew _ _) (fun hSw=>?_)
    refine wt (i:=0) (oi:={ dst:=some 8,op:=Op.fieldAddr 27 (Operand.tmp 1) 1,type:=0,pos := "does.go:14", after:=#[],guard:=none }) (v:=.pointer (some ⟨w.heap.size,1,none⟩)) (fun W hW=>?_) hSw ?_
    · first|(go_simp;done)|rfl
    try simp only [Act.put]
    refine wt (i:=1) (oi:={ dst:=some 9,op:=Op.load 23 (Operand.tmp 8),type:=23,pos := "does.go:14", after:=#[gd 0],guard:=none }) (v:=.slice so N2 sc) (fun W hW=>?_) hSw ?_
    · have q1:=hW.cell (by dsimp only;omega) q1
      first|(go_simp;done)|rfl
    try simp only [Act.put]
    refine wt (i:=2) (oi:={ dst:=some 10,op:=Op.call { callee:=Callee.builtin Builtin.len,args:=#[Operand.tmp 9],argTypes:=#[23] },type:=3,pos := "does.go:14", after:=#[gd 1],guard:=none }) (v:=.int .i64 N2) (fun W hW=>?_) hSw ?_
    · first|(go_simp;done)|rfl
    try simp only [Act.put]
    refine wt (i:=4) (oi:={ dst:=some 12,op:=Op.fieldAddr 27 (Operand.tmp 1) 2,type:=0,pos := "does.go:14", after:=#[],guard:=none }) (v:=.pointer (some ⟨w.heap.size,2,none⟩)) (fun W hW=>?_) hSw ?_
    · first|(go_simp;done)|rfl
    try simp only [Act.put]
    refine wt (i:=5) (oi:={ dst:=some 13,op:=Op.load 24 (Operand.tmp 12),type:=24,pos := "does.go:14", after:=#[gd 4],guard:=none }) (v:=.slice fo N3 fc) (fun W hW=>?_) hSw ?_
    · have q2:=hW.cell (by dsimp only;omega) q2
      first|(go_simp;done)|rfl
    try simp only [Act.put]
    refine wt (i:=6) (oi:={ dst:=some 14,op:=Op.call { callee:=Callee.builtin Builtin.len,args:=#[Operand.tmp 13],argTypes:=#[24] },type:=3,pos := "does.go:14", after:=#[gd 5],guard:=none }) (v:=.int .i64 N3) (fun W hW=>?_) hSw ?_
    · first|(go_simp;done)|rfl
    try simp only [Act.put]
    refine wt (i:=8) (oi:={ dst:=some 16,op:=Op.fieldAddr 27 (Operand.tmp 1) 2,type:=0,pos := "does.go:14", after:=#[],guard:=none }) (v:=.pointer (some ⟨w.heap.size,2,none⟩)) (fun W hW=>?_) hSw ?_
    · first|(go_simp;done)|rfl
    try simp only [Act.put]
    refine wt (i:=9) (oi:={ dst:=some 17,op:=Op.load 24 (Operand.tmp 16),type:=24,pos := "does.go:14", after:=#[gd 8],guard:=none }) (v:=.slice fo N3 fc) (fun W hW=>?_) hSw ?_
    · have q2:=hW.cell (by dsimp only;omega) q2
      first|(go_simp;done)|rfl
    try simp only [Act.put]
    refine wt (i:=10) (oi:={ dst:=some 18,op:=Op.call { callee:=Callee.builtin Builtin.len,args:=#[Operand.tmp 17],argTypes:=#[24] },type:=3,pos := "does.go:14", after:=#[gd 9],guard:=none }) (v:=.int .i64 N3) (fun W hW=>?_) hSw ?_
    · first|(go_simp;done)|rfl
    try simp only [Act.put]
    refine wpAnyH_ready (rs:=[3,7,11]) (by kernel_rfl) (by simp) ?_
    refine AllReadyH.cons (o:={ dst:=some 11,op:=Op.makeMap 79 (some (Operand.tmp 10)),type:=79,pos := "does.go:14", after:=#[gd 2],guard:=none }) rfl (fun K hK=>?_) (AllReadyH.cons (o:={ dst:=some 15,op:=Op.makeMap 80 (some (Operand.tmp 14)),type:=80,pos := "does.go:14", after:=#[gd 6],guard:=none }) rfl (fun K hK=>?_) (AllReadyH.cons (o:={ dst:=some 19,op:=Op.makeMap 81 (some (Operand.tmp 18)),type:=81,pos := "does.go:14", after:=#[gd 10],guard:=none }) rfl (fun K hK=>?_) AllReadyH.nil))
    · rw [if_pos (by rfl)]
      clear hSw
      go_simp
      refine hK.out _ _ (by first|exact SameTo.drew _ _|exact SameTo.of (below_box _ _).drew|exact SameTo.of ((below_box _ _).alloc (by simp) _).drew|exact SameTo.of (((below_box _ _).alloc (by simp) _).alloc (by simp <;> omega) _).drew|exact SameTo.of ((((below_box _ _).alloc (by simp) _).alloc (by simp <;> omega) _).alloc (by simp <;> omega) _).drew) (fun hSw=>?_)
      clear hK K
      try simp only [Act.put,q1,q2,q3]
      refine wpAnyH_ready (rs:=[7,11]) (by kernel_rfl) (by simp) ?_
      refine AllReadyH.cons (o:={ dst:=some 15,op:=Op.makeMap 80 (some (Operand.tmp 14)),type:=80,pos := "does.go:14", after:=#[gd 6],guard:=none }) rfl (fun K hK=>?_) (AllReadyH.cons (o:={ dst:=some 19,op:=Op.makeMap 81 (some (Operand.tmp 18)),type:=81,pos := "does.go:14", after:=#[gd 10],guard:=none }) rfl (fun K hK=>?_) AllReadyH.nil)
      · rw [if_pos (by rfl)]
        clear hSw
        go_simp
        refine hK.out _ _ (by first|exact SameTo.drew _ _|exact SameTo.of (below_box _ _).drew|exact SameTo.of ((below_box _ _).alloc (by simp) _).drew|exact SameTo.of (((below_box _ _).alloc (by simp) _).alloc (by simp <;> omega) _).drew|exact SameTo.of ((((below_box _ _).alloc (by simp) _).alloc (by simp <;> omega) _).alloc (by simp <;> omega) _).drew) (fun hSw=>?_)
        clear hK K
        try simp only [Act.put,q1,q2,q3]
        refine wpAnyH_ready (rs:=[11]) (by kernel_rfl) (by simp) ?_
        refine AllReadyH.cons (o:={ dst:=some 19,op:=Op.makeMap 81 (some (Operand.tmp 18)),type:=81,pos := "does.go:14", after:=#[gd 10],guard:=none }) rfl (fun K hK=>?_) AllReadyH.nil
        · rw [if_pos (by rfl)]
          clear hSw
          go_simp
          refine hK.out _ _ (by first|exact SameTo.drew _ _|exact SameTo.of (below_box _ _).drew|exact SameTo.of ((below_box _ _).alloc (by simp) _).drew|exact SameTo.of (((below_box _ _).alloc (by simp) _).alloc (by simp <;> omega) _).drew|exact SameTo.of ((((below_box _ _).alloc (by simp) _).alloc (by simp <;> omega) _).alloc (by simp <;> omega) _).drew) (fun hSw=>?_)
          clear hK K
          try simp only [Act.put,q1,q2,q3]
          refine wpAnyH_ready (rs:=[12]) (by kernel_rfl) (by simp) ?_
          refine AllReadyH.cons (o:={ dst:=some 20,op:=Op.build 83 #[(0,Operand.tmp 11),(1,Operand.tmp 15),(2,Operand.tmp 19)],type:=83,pos := "does.go:14", after:=#[gd 3,gd 7,gd 11],guard:=none }) rfl (fun K hK=>?_) AllReadyH.nil
          · rw [if_pos (by rfl)]
            clear hSw
            go_simp
            refine hK.out _ _ (by first|exact SameTo.drew _ _|exact SameTo.of (below_box _ _).drew|exact SameTo.of ((below_box _ _).alloc (by simp) _).drew|exact SameTo.of (((below_box _ _).alloc (by simp) _).alloc (by simp <;> omega) _).drew|exact SameTo.of ((((below_box _ _).alloc (by simp) _).alloc (by simp <;> omega) _).alloc (by simp <;> omega) _).drew) (fun hSw=>?_)
            clear hK K
            try simp only [Act.put,q1,q2,q3]
            refine wpAnyH_ready (rs:=[13]) (by kernel_rfl) (by simp) ?_
            refine AllReadyH.cons (o:={ dst:=some 21,op:=Op.box 83 (Operand.tmp 20),type:=52,pos := "does.go:14", after:=#[gd 12],guard:=none }) rfl (fun K hK=>?_) AllReadyH.nil
            · rw [if_pos (by rfl)]
              clear hSw
              go_simp
              refine hK.out _ _ (by first|exact SameTo.drew _ _|exact SameTo.of (below_box _ _).drew|exact SameTo.of ((below_box _ _).alloc (by simp) _).drew|exact SameTo.of (((below_box _ _).alloc (by simp) _).alloc (by simp <;> omega) _).drew|exact SameTo.of ((((below_box _ _).alloc (by simp) _).alloc (by simp <;> omega) _).alloc (by simp <;> omega) _).drew) (fun hSw=>?_)
              clear hK K
              try simp only [Act.put,q1,q2,q3]
              refine wpAnyH_ready (rs:=[14]) (by kernel_rfl) (by simp) ?_
              refine AllReadyH.cons (o:={ dst:=some 3,op:=Op.assign (Operand.tmp 21),type:=52,pos := "does.go:14", after:=#[gd 13,gp 0,gp 1,gp 2,gp 3,gp 4,gp 5,gp 6,gp 7,gp 8,gp 9,gp 10,gp 11,gp 12,gp 13],guard:=none }) rfl (fun K hK=>?_) AllReadyH.nil
              · rw [if_pos (by rfl)]
                clear hSw
                go_simp
                refine hK.out _ _ (by first|exact SameTo.drew _ _|exact SameTo.of (below_box _ _).drew|exact SameTo.of ((below_box _ _).alloc (by simp) _).drew|exact SameTo.of (((below_box _ _).alloc (by simp) _).alloc (by simp <;> omega) _).drew|exact SameTo.of ((((below_box _ _).alloc (by simp) _).alloc (by simp <;> omega) _).alloc (by simp <;> omega) _).drew) (fun hSw=>?_)
                clear hK K
                try simp only [Act.put,q1,q2,q3]
                refine wpAnyH_done (by kernel_rfl) ?_ _
                refine⟨_,_,_,_,rfl, ?_⟩
                exact newE W1 0 1 2 (by omega) _ _ _ _ (by omega) (by omega) (by omega) (by omega)
      · rw [if_pos (by rfl)]
        clear hSw
        go_simp
        refine hK.out _ _ (by first|exact SameTo.drew _ _|exact SameTo.of (below_box _ _).drew|exact SameTo.of ((below_box _ _).alloc (by simp) _).drew|exact SameTo.of (((below_box _ _).alloc (by simp) _).alloc (by simp <;> omega) _).drew|exact SameTo.of ((((below_box _ _).alloc (by simp) _).alloc (by simp <;> omega) _).alloc (by simp <;> omega) _).drew) (fun hSw=>?_)
        clear hK K
        try simp only [Act.put,q1,q2,q3]
        refine wpAnyH_ready (rs:=[7]) (by kernel_rfl) (by simp) ?_
        refine AllReadyH.cons (o:={ dst:=some 15,op:=Op.makeMap 80 (some (Operand.tmp 14)),type:=80,pos := "does.go:14", after:=#[gd 6],guard:=none }) rfl (fun K hK=>?_) AllReadyH.nil
        · rw [if_pos (by rfl)]
          clear hSw
          go_simp
          refine hK.out _ _ (by first|exact SameTo.drew _ _|exact SameTo.of (below_box _ _).drew|exact SameTo.of ((below_box _ _).alloc (by simp) _).drew|exact SameTo.of (((below_box _ _).alloc (by simp) _).alloc (by simp <;> omega) _).drew|exact SameTo.of ((((below_box _ _).alloc (by simp) _).alloc (by simp <;> omega) _).alloc (by simp <;> omega) _).drew) (fun hSw=>?_)
          clear hK K
          try simp only [Act.put,q1,q2,q3]
          refine wpAnyH_ready (rs:=[12]) (by kernel_rfl) (by simp) ?_
          refine AllReadyH.cons (o:={ dst:=some 20,op:=Op.build 83 #[(0,Operand.tmp 11),(1,Operand.tmp 15),(2,Operand.tmp 19)],type:=83,pos := "does.go:14", after:=#[gd 3,gd 7,gd 11],guard:=none }) rfl (fun K hK=>?_) AllReadyH.nil
          · rw [if_pos (by rfl)]
            clear hSw
            go_simp
            refine hK.out _ _ (by first|exact SameTo.drew _ _|exact SameTo.of (below_box _ _).drew|exact SameTo.of ((below_box _ _).alloc (by simp) _).drew|exact SameTo.of (((below_box _ _).alloc (by simp) _).alloc (by simp <;> omega) _).drew|exact SameTo.of ((((below_box _ _).alloc (by simp) _).alloc (by simp <;> omega) _).alloc (by simp <;> omega) _).drew) (fun hSw=>?_)
            clear hK K
            try simp only [Act.put,q1,q2,q3]
            refine wpAnyH_ready (rs:=[13]) (by kernel_rfl) (by simp) ?_
            refine AllReadyH.cons (o:={ dst:=some 21,op:=Op.box 83 (Operand.tmp 20),type:=52,pos := "does.go:14", after:=#[gd 12],guard:=none }) rfl (fun K hK=>?_) AllReadyH.nil
            · rw [if_pos (by rfl)]
              clear hSw
              go_simp
              refine hK.out _ _ (by first|exact SameTo.drew _ _|exact SameTo.of (below_box _ _).drew|exact SameTo.of ((below_box _ _).alloc (by simp) _).drew|exact SameTo.of (((below_box _ _).alloc (by simp) _).alloc (by simp <;> omega) _).drew|exact SameTo.of ((((below_box _ _).alloc (by simp) _).alloc (by simp <;> omega) _).alloc (by simp <;> omega) _).drew) (fun hSw=>?_)
              clear hK K
              try simp only [Act.put,q1,q2,q3]
              refine wpAnyH_ready (rs:=[14]) (by kernel_rfl) (by simp) ?_
              refine AllReadyH.cons (o:={ dst:=some 3,op:=Op.assign (Operand.tmp 21),type:=52,pos := "does.go:14", after:=#[gd 13,gp 0,gp 1,gp 2,gp 3,gp 4,gp 5,gp 6,gp 7,gp 8,gp 9,gp 10,gp 11,gp 12,gp 13],guard:=none }) rfl (fun K hK=>?_) AllReadyH.nil
              · rw [if_pos (by rfl)]
                clear hSw
                go_simp
                refine hK.out _ _ (by first|exact SameTo.drew _ _|exact SameTo.of (below_box _ _).drew|exact SameTo.of ((below_box _ _).alloc (by simp) _).drew|exact SameTo.of (((below_box _ _).alloc (by simp) _).alloc (by simp <;> omega) _).drew|exact SameTo.of ((((below_box _ _).alloc (by simp) _).alloc (by simp <;> omega) _).alloc (by simp <;> omega) _).drew) (fun hSw=>?_)
                clear hK K
                try simp only [Act.put,q1,q2,q3]
                refine wpAnyH_done (by kernel_rfl) ?_ _
                refine⟨_,_,_,_,rfl, ?_⟩
                exact newE W1 0 2 1 (by omega) _ _ _ _ (by omega) (by omega) (by omega) (by omega)
    · rw [if_pos (by rfl)]
      clear hSw
      go_simp
      refine hK.out _ _ (by first|exact SameTo.drew _ _|exact SameTo.of (below_box _ _).drew|exact SameTo.of ((below_box _ _).alloc (by simp) _).drew|exact SameTo.of (((below_box _ _).alloc (by simp) _).alloc (by simp <;> omega) _).drew|exact SameTo.of ((((below_box _ _).alloc (by simp) _).alloc (by simp <;> omega) _).alloc (by simp <;> omega) _).drew) (fun hSw=>?_)
      clear hK K
      try simp only [Act.put,q1,q2,q3]
      refine wpAnyH_ready (rs:=[3,11]) (by kernel_rfl) (by simp) ?_
      refine AllReadyH.cons (o:={ dst:=some 11,op:=Op.makeMap 79 (some (Operand.tmp 10)),type:=79,pos := "does.go:14", after:=#[gd 2],guard:=none }) rfl (fun K hK=>?_) (AllReadyH.cons (o:={ dst:=some 19,op:=Op.makeMap 81 (some (Operand.tmp 18)),type:=81,pos := "does.go:14", after:=#[gd 10],guard:=none }) rfl (fun K hK=>?_) AllReadyH.nil)
      · rw [if_pos (by rfl)]
        clear hSw
        go_simp
        refine hK.out _ _ (by first|exact SameTo.drew _ _|exact SameTo.of (below_box _ _).drew|exact SameTo.of ((below_box _ _).alloc (by simp) _).drew|exact SameTo.of (((below_box _ _).alloc (by simp) _).alloc (by simp <;> omega) _).drew|exact SameTo.of ((((below_box _ _).alloc (by simp) _).alloc (by simp <;> omega) _).alloc (by simp <;> omega) _).drew) (fun hSw=>?_)
        clear hK K
        try simp only [Act.put,q1,q2,q3]
        refine wpAnyH_ready (rs:=[11]) (by kernel_rfl) (by simp) ?_
        refine AllReadyH.cons (o:={ dst:=some 19,op:=Op.makeMap 81 (some (Operand.tmp 18)),type:=81,pos := "does.go:14", after:=#[gd 10],guard:=none }) rfl (fun K hK=>?_) AllReadyH.nil
        · rw [if_pos (by rfl)]
          clear hSw
          go_simp
          refine hK.out _ _ (by first|exact SameTo.drew _ _|exact SameTo.of (below_box _ _).drew|exact SameTo.of ((below_box _ _).alloc (by simp) _).drew|exact SameTo.of (((below_box _ _).alloc (by simp) _).alloc (by simp <;> omega) _).drew|exact SameTo.of ((((below_box _ _).alloc (by simp) _).alloc (by simp <;> omega) _).alloc (by simp <;> omega) _).drew) (fun hSw=>?_)
          clear hK K
          try simp only [Act.put,q1,q2,q3]
          refine wpAnyH_ready (rs:=[12]) (by kernel_rfl) (by simp) ?_
          refine AllReadyH.cons (o:={ dst:=some 20,op:=Op.build 83 #[(0,Operand.tmp 11),(1,Operand.tmp 15),(2,Operand.tmp 19)],type:=83,pos := "does.go:14", after:=#[gd 3,gd 7,gd 11],guard:=none }) rfl (fun K hK=>?_) AllReadyH.nil
          · rw [if_pos (by rfl)]
            clear hSw
            go_simp
            refine hK.out _ _ (by first|exact SameTo.drew _ _|exact SameTo.of (below_box _ _).drew|exact SameTo.of ((below_box _ _).alloc (by simp) _).drew|exact SameTo.of (((below_box _ _).alloc (by simp) _).alloc (by simp <;> omega) _).drew|exact SameTo.of ((((below_box _ _).alloc (by simp) _).alloc (by simp <;> omega) _).alloc (by simp <;> omega) _).drew) (fun hSw=>?_)
            clear hK K
            try simp only [Act.put,q1,q2,q3]
            refine wpAnyH_ready (rs:=[13]) (by kernel_rfl) (by simp) ?_
            refine AllReadyH.cons (o:={ dst:=some 21,op:=Op.box 83 (Operand.tmp 20),type:=52,pos := "does.go:14", after:=#[gd 12],guard:=none }) rfl (fun K hK=>?_) AllReadyH.nil
            · rw [if_pos (by rfl)]
              clear hSw
              go_simp
              refine hK.out _ _ (by first|exact SameTo.drew _ _|exact SameTo.of (below_box _ _).drew|exact SameTo.of ((below_box _ _).alloc (by simp) _).drew|exact SameTo.of (((below_box _ _).alloc (by simp) _).alloc (by simp <;> omega) _).drew|exact SameTo.of ((((below_box _ _).alloc (by simp) _).alloc (by simp <;> omega) _).alloc (by simp <;> omega) _).drew) (fun hSw=>?_)
              clear hK K
              try simp only [Act.put,q1,q2,q3]
              refine wpAnyH_ready (rs:=[14]) (by kernel_rfl) (by simp) ?_
              refine AllReadyH.cons (o:={ dst:=some 3,op:=Op.assign (Operand.tmp 21),type:=52,pos := "does.go:14", after:=#[gd 13,gp 0,gp 1,gp 2,gp 3,gp 4,gp 5,gp 6,gp 7,gp 8,gp 9,gp 10,gp 11,gp 12,gp 13],guard:=none }) rfl (fun K hK=>?_) AllReadyH.nil
              · rw [if_pos (by rfl)]
                clear hSw
                go_simp
                refine hK.out _ _ (by first|exact SameTo.drew _ _|exact SameTo.of (below_box _ _).drew|exact SameTo.of ((below_box _ _).alloc (by simp) _).drew|exact SameTo.of (((below_box _ _).alloc (by simp) _).alloc (by simp <;> omega) _).drew|exact SameTo.of ((((below_box _ _).alloc (by simp) _).alloc (by simp <;> omega) _).alloc (by simp <;> omega) _).drew) (fun hSw=>?_)
                clear hK K
                try simp only [Act.put,q1,q2,q3]
                refine wpAnyH_done (by kernel_rfl) ?_ _
                refine⟨_,_,_,_,rfl, ?_⟩
                exact newE W1 1 0 2 (by omega) _ _ _ _ (by omega) (by omega) (by omega) (by omega)
      · rw [if_pos (by rfl)]
        clear hSw
        go_simp
        refine hK.out _ _ (by first|exact SameTo.drew _ _|exact SameTo.of (below_box _ _).drew|exact SameTo.of ((below_box _ _).alloc (by simp) _).drew|exact SameTo.of (((below_box _ _).alloc (by simp) _).alloc (by simp <;> omega) _).drew|exact SameTo.of ((((below_box _ _).alloc (by simp) _).alloc (by simp <;> omega) _).alloc (by simp <;> omega) _).drew) (fun hSw=>?_)
        clear hK K
        try simp only [Act.put,q1,q2,q3]
        refine wpAnyH_ready (rs:=[3]) (by kernel_rfl) (by simp) ?_
        refine AllReadyH.cons (o:={ dst:=some 11,op:=Op.makeMap 79 (some (Operand.tmp 10)),type:=79,pos := "does.go:14", after:=#[gd 2],guard:=none }) rfl (fun K hK=>?_) AllReadyH.nil
        · rw [if_pos (by rfl)]
          clear hSw
          go_simp
          refine hK.out _ _ (by first|exact SameTo.drew _ _|exact SameTo.of (below_box _ _).drew|exact SameTo.of ((below_box _ _).alloc (by simp) _).drew|exact SameTo.of (((below_box _ _).alloc (by simp) _).alloc (by simp <;> omega) _).drew|exact SameTo.of ((((below_box _ _).alloc (by simp) _).alloc (by simp <;> omega) _).alloc (by simp <;> omega) _).drew) (fun hSw=>?_)
          clear hK K
          try simp only [Act.put,q1,q2,q3]
          refine wpAnyH_ready (rs:=[12]) (by kernel_rfl) (by simp) ?_
          refine AllReadyH.cons (o:={ dst:=some 20,op:=Op.build 83 #[(0,Operand.tmp 11),(1,Operand.tmp 15),(2,Operand.tmp 19)],type:=83,pos := "does.go:14", after:=#[gd 3,gd 7,gd 11],guard:=none }) rfl (fun K hK=>?_) AllReadyH.nil
          · rw [if_pos (by rfl)]
            clear hSw
            go_simp
            refine hK.out _ _ (by first|exact SameTo.drew _ _|exact SameTo.of (below_box _ _).drew|exact SameTo.of ((below_box _ _).alloc (by simp) _).drew|exact SameTo.of (((below_box _ _).alloc (by simp) _).alloc (by simp <;> omega) _).drew|exact SameTo.of ((((below_box _ _).alloc (by simp) _).alloc (by simp <;> omega) _).alloc (by simp <;> omega) _).drew) (fun hSw=>?_)
            clear hK K
            try simp only [Act.put,q1,q2,q3]
            refine wpAnyH_ready (rs:=[13]) (by kernel_rfl) (by simp) ?_
            refine AllReadyH.cons (o:={ dst:=some 21,op:=Op.box 83 (Operand.tmp 20),type:=52,pos := "does.go:14", after:=#[gd 12],guard:=none }) rfl (fun K hK=>?_) AllReadyH.nil
            · rw [if_pos (by rfl)]
              clear hSw
              go_simp
              refine hK.out _ _ (by first|exact SameTo.drew _ _|exact SameTo.of (below_box _ _).drew|exact SameTo.of ((below_box _ _).alloc (by simp) _).drew|exact SameTo.of (((below_box _ _).alloc (by simp) _).alloc (by simp <;> omega) _).drew|exact SameTo.of ((((below_box _ _).alloc (by simp) _).alloc (by simp <;> omega) _).alloc (by simp <;> omega) _).drew) (fun hSw=>?_)
              clear hK K
              try simp only [Act.put,q1,q2,q3]
              refine wpAnyH_ready (rs:=[14]) (by kernel_rfl) (by simp) ?_
              refine AllReadyH.cons (o:={ dst:=some 3,op:=Op.assign (Operand.tmp 21),type:=52,pos := "does.go:14", after:=#[gd 13,gp 0,gp 1,gp 2,gp 3,gp 4,gp 5,gp 6,gp 7,gp 8,gp 9,gp 10,gp 11,gp 12,gp 13],guard:=none }) rfl (fun K hK=>?_) AllReadyH.nil
              · rw [if_pos (by rfl)]
                clear hSw
                go_simp
                refine hK.out _ _ (by first|exact SameTo.drew _ _|exact SameTo.of (below_box _ _).drew|exact SameTo.of ((below_box _ _).alloc (by simp) _).drew|exact SameTo.of (((below_box _ _).alloc (by simp) _).alloc (by simp <;> omega) _).drew|exact SameTo.of ((((below_box _ _).alloc (by simp) _).alloc (by simp <;> omega) _).alloc (by simp <;> omega) _).drew) (fun hSw=>?_)
                clear hK K
                try simp only [Act.put,q1,q2,q3]
                refine wpAnyH_done (by kernel_rfl) ?_ _
                refine⟨_,_,_,_,rfl, ?_⟩
                exact newE W1 2 0 1 (by omega) _ _ _ _ (by omega) (by omega) (by omega) (by omega)
    · rw [if_pos (by rfl)]
      clear hSw
      go_simp
      refine hK.out _ _ (by first|exact SameTo.drew _ _|exact SameTo.of (below_box _ _).drew|exact SameTo.of ((below_box _ _).alloc (by simp) _).drew|exact SameTo.of (((below_box _ _).alloc (by simp) _).alloc (by simp <;> omega) _).drew|exact SameTo.of ((((below_box _ _).alloc (by simp) _).alloc (by simp <;> omega) _).alloc (by simp <;> omega) _).drew) (fun hSw=>?_)
      clear hK K
      try simp only [Act.put,q1,q2,q3]
      refine wpAnyH_ready (rs:=[3,7]) (by kernel_rfl) (by simp) ?_
      refine AllReadyH.cons (o:={ dst:=some 11,op:=Op.makeMap 79 (some (Operand.tmp 10)),type:=79,pos := "does.go:14", after:=#[gd 2],guard:=none }) rfl (fun K hK=>?_) (AllReadyH.cons (o:={ dst:=some 15,op:=Op.makeMap 80 (some (Operand.tmp 14)),type:=80,pos := "does.go:14", after:=#[gd 6],guard:=none }) rfl (fun K hK=>?_) AllReadyH.nil)
      · rw [if_pos (by rfl)]
        clear hSw
        go_simp
        refine hK.out _ _ (by first|exact SameTo.drew _ _|exact SameTo.of (below_box _ _).drew|exact SameTo.of ((below_box _ _).alloc (by simp) _).drew|exact SameTo.of (((below_box _ _).alloc (by simp) _).alloc (by simp <;> omega) _).drew|exact SameTo.of ((((below_box _ _).alloc (by simp) _).alloc (by simp <;> omega) _).alloc (by simp <;> omega) _).drew) (fun hSw=>?_)
        clear hK K
        try simp only [Act.put,q1,q2,q3]
        refine wpAnyH_ready (rs:=[7]) (by kernel_rfl) (by simp) ?_
        refine AllReadyH.cons (o:={ dst:=some 15,op:=Op.makeMap 80 (some (Operand.tmp 14)),type:=80,pos := "does.go:14", after:=#[gd 6],guard:=none }) rfl (fun K hK=>?_) AllReadyH.nil
        · rw [if_pos (by rfl)]
          clear hSw
          go_simp
          refine hK.out _ _ (by first|exact SameTo.drew _ _|exact SameTo.of (below_box _ _).drew|exact SameTo.of ((below_box _ _).alloc (by simp) _).drew|exact SameTo.of (((below_box _ _).alloc (by simp) _).alloc (by simp <;> omega) _).drew|exact SameTo.of ((((below_box _ _).alloc (by simp) _).alloc (by simp <;> omega) _).alloc (by simp <;> omega) _).drew) (fun hSw=>?_)
          clear hK K
          try simp only [Act.put,q1,q2,q3]
          refine wpAnyH_ready (rs:=[12]) (by kernel_rfl) (by simp) ?_
          refine AllReadyH.cons (o:={ dst:=some 20,op:=Op.build 83 #[(0,Operand.tmp 11),(1,Operand.tmp 15),(2,Operand.tmp 19)],type:=83,pos := "does.go:14", after:=#[gd 3,gd 7,gd 11],guard:=none }) rfl (fun K hK=>?_) AllReadyH.nil
          · rw [if_pos (by rfl)]
            clear hSw
            go_simp
            refine hK.out _ _ (by first|exact SameTo.drew _ _|exact SameTo.of (below_box _ _).drew|exact SameTo.of ((below_box _ _).alloc (by simp) _).drew|exact SameTo.of (((below_box _ _).alloc (by simp) _).alloc (by simp <;> omega) _).drew|exact SameTo.of ((((below_box _ _).alloc (by simp) _).alloc (by simp <;> omega) _).alloc (by simp <;> omega) _).drew) (fun hSw=>?_)
            clear hK K
            try simp only [Act.put,q1,q2,q3]
            refine wpAnyH_ready (rs:=[13]) (by kernel_rfl) (by simp) ?_
            refine AllReadyH.cons (o:={ dst:=some 21,op:=Op.box 83 (Operand.tmp 20),type:=52,pos := "does.go:14", after:=#[gd 12],guard:=none }) rfl (fun K hK=>?_) AllReadyH.nil
            · rw [if_pos (by rfl)]
              clear hSw
              go_simp
              refine hK.out _ _ (by first|exact SameTo.drew _ _|exact SameTo.of (below_box _ _).drew|exact SameTo.of ((below_box _ _).alloc (by simp) _).drew|exact SameTo.of (((below_box _ _).alloc (by simp) _).alloc (by simp <;> omega) _).drew|exact SameTo.of ((((below_box _ _).alloc (by simp) _).alloc (by simp <;> omega) _).alloc (by simp <;> omega) _).drew) (fun hSw=>?_)
              clear hK K
              try simp only [Act.put,q1,q2,q3]
              refine wpAnyH_ready (rs:=[14]) (by kernel_rfl) (by simp) ?_
              refine AllReadyH.cons (o:={ dst:=some 3,op:=Op.assign (Operand.tmp 21),type:=52,pos := "does.go:14", after:=#[gd 13,gp 0,gp 1,gp 2,gp 3,gp 4,gp 5,gp 6,gp 7,gp 8,gp 9,gp 10,gp 11,gp 12,gp 13],guard:=none }) rfl (fun K hK=>?_) AllReadyH.nil
              · rw [if_pos (by rfl)]
                clear hSw
                go_simp
                refine hK.out _ _ (by first|exact SameTo.drew _ _|exact SameTo.of (below_box _ _).drew|exact SameTo.of ((below_box _ _).alloc (by simp) _).drew|exact SameTo.of (((below_box _ _).alloc (by simp) _).alloc (by simp <;> omega) _).drew|exact SameTo.of ((((below_box _ _).alloc (by simp) _).alloc (by simp <;> omega) _).alloc (by simp <;> omega) _).drew) (fun hSw=>?_)
                clear hK K
                try simp only [Act.put,q1,q2,q3]
                refine wpAnyH_done (by kernel_rfl) ?_ _
                refine⟨_,_,_,_,rfl, ?_⟩
                exact newE W1 1 2 0 (by omega) _ _ _ _ (by omega) (by omega) (by omega) (by omega)
      · rw [if_pos (by rfl)]
        clear hSw
        go_simp
        refine hK.out _ _ (by first|exact SameTo.drew _ _|exact SameTo.of (below_box _ _).drew|exact SameTo.of ((below_box _ _).alloc (by simp) _).drew|exact SameTo.of (((below_box _ _).alloc (by simp) _).alloc (by simp <;> omega) _).drew|exact SameTo.of ((((below_box _ _).alloc (by simp) _).alloc (by simp <;> omega) _).alloc (by simp <;> omega) _).drew) (fun hSw=>?_)
        clear hK K
        try simp only [Act.put,q1,q2,q3]
        refine wpAnyH_ready (rs:=[3]) (by kernel_rfl) (by simp) ?_
        refine AllReadyH.cons (o:={ dst:=some 11,op:=Op.makeMap 79 (some (Operand.tmp 10)),type:=79,pos := "does.go:14", after:=#[gd 2],guard:=none }) rfl (fun K hK=>?_) AllReadyH.nil
        · rw [if_pos (by rfl)]
          clear hSw
          go_simp
          refine hK.out _ _ (by first|exact SameTo.drew _ _|exact SameTo.of (below_box _ _).drew|exact SameTo.of ((below_box _ _).alloc (by simp) _).drew|exact SameTo.of (((below_box _ _).alloc (by simp) _).alloc (by simp <;> omega) _).drew|exact SameTo.of ((((below_box _ _).alloc (by simp) _).alloc (by simp <;> omega) _).alloc (by simp <;> omega) _).drew) (fun hSw=>?_)
          clear hK K
          try simp only [Act.put,q1,q2,q3]
          refine wpAnyH_ready (rs:=[12]) (by kernel_rfl) (by simp) ?_
          refine AllReadyH.cons (o:={ dst:=some 20,op:=Op.build 83 #[(0,Operand.tmp 11),(1,Operand.tmp 15),(2,Operand.tmp 19)],type:=83,pos := "does.go:14", after:=#[gd 3,gd 7,gd 11],guard:=none }) rfl (fun K hK=>?_) AllReadyH.nil
          · rw [if_pos (by rfl)]
            clear hSw
            go_simp
            refine hK.out _ _ (by first|exact SameTo.drew _ _|exact SameTo.of (below_box _ _).drew|exact SameTo.of ((below_box _ _).alloc (by simp) _).drew|exact SameTo.of (((below_box _ _).alloc (by simp) _).alloc (by simp <;> omega) _).drew|exact SameTo.of ((((below_box _ _).alloc (by simp) _).alloc (by simp <;> omega) _).alloc (by simp <;> omega) _).drew) (fun hSw=>?_)
            clear hK K
            try simp only [Act.put,q1,q2,q3]
            refine wpAnyH_ready (rs:=[13]) (by kernel_rfl) (by simp) ?_
            refine AllReadyH.cons (o:={ dst:=some 21,op:=Op.box 83 (Operand.tmp 20),type:=52,pos := "does.go:14", after:=#[gd 12],guard:=none }) rfl (fun K hK=>?_) AllReadyH.nil
            · rw [if_pos (by rfl)]
              clear hSw
              go_simp
              refine hK.out _ _ (by first|exact SameTo.drew _ _|exact SameTo.of (below_box _ _).drew|exact SameTo.of ((below_box _ _).alloc (by simp) _).drew|exact SameTo.of (((below_box _ _).alloc (by simp) _).alloc (by simp <;> omega) _).drew|exact SameTo.of ((((below_box _ _).alloc (by simp) _).alloc (by simp <;> omega) _).alloc (by simp <;> omega) _).drew) (fun hSw=>?_)
              clear hK K
              try simp only [Act.put,q1,q2,q3]
              refine wpAnyH_ready (rs:=[14]) (by kernel_rfl) (by simp) ?_
              refine AllReadyH.cons (o:={ dst:=some 3,op:=Op.assign (Operand.tmp 21),type:=52,pos := "does.go:14", after:=#[gd 13,gp 0,gp 1,gp 2,gp 3,gp 4,gp 5,gp 6,gp 7,gp 8,gp 9,gp 10,gp 11,gp 12,gp 13],guard:=none }) rfl (fun K hK=>?_) AllReadyH.nil
              · rw [if_pos (by rfl)]
                clear hSw
                go_simp
                refine hK.out _ _ (by first|exact SameTo.drew _ _|exact SameTo.of (below_box _ _).drew|exact SameTo.of ((below_box _ _).alloc (by simp) _).drew|exact SameTo.of (((below_box _ _).alloc (by simp) _).alloc (by simp <;> omega) _).drew|exact SameTo.of ((((below_box _ _).alloc (by simp) _).alloc (by simp <;> omega) _).alloc (by simp <;> omega) _).drew) (fun hSw=>?_)
                clear hK K
                try simp only [Act.put,q1,q2,q3]
                refine wpAnyH_done (by kernel_rfl) ?_ _
                refine⟨_,_,_,_,rfl, ?_⟩
                exact newE W1 2 1 0 (by omega) _ _ _ _ (by omega) (by omega) (by omega) (by omega)
  obtain⟨rfl,d,ms,mb,mm,rfl,hE⟩:e = .normal∧∃ d ms mb mm:Nat,a=⟨#[.agg #[rv,.slice so N2 sc,.slice fo N3 fc,tv],.pointer (some ⟨w.heap.size,0,none⟩),.pointer none,.pointer (some ⟨d,0,none⟩),undef,undef,undef,undef,.pointer (some ⟨w.heap.size,1,none⟩),.slice so N2 sc,.int .i64 N2,.map (some ms),.pointer (some ⟨w.heap.size,2,none⟩),.slice fo N3 fc,.int .i64 N3,.map (some mb),.pointer (some ⟨w.heap.size,2,none⟩),.slice fo N3 fc,.int .i64 N3,.map (some mm),.agg #[.map (some ms),.map (some mb),.map (some mm)],.pointer (some ⟨d,0,none⟩),undef,undef,undef,undef,undef,undef,undef,undef,undef,undef,undef,undef,undef,undef,undef,undef,undef,undef,undef,undef,undef,undef,undef,undef,undef,undef,undef,undef,undef,undef,undef,undef],[]⟩ ∧ NewE W1 W d ms mb mm:=by
    cases e <;> first|exact⟨rfl,h⟩|exact h.elim
  have hbW:=hE.below
  have hO2:=(hbW.block w.heap.size (by omega)).trans HO1.out
  have HE:=hid (NewE.start (P:=P) hE)
  have HBW:=hid hbW
  obtain⟨q0,q1,q2,q3⟩:=cells_prog _ _ _ _ hO2
  have hdw:=hE.new.2.2.2
  have hmw:=hE.new.2.2.1
  clear hE hbW hO2
  go_wp2_with fail
  go_loopw [25] (fun q wr=>∃ k:Nat,k≤N2∧q = .int .i64 k∧NewK P k 0 W1 wr d ms mb mm) (fun q _=>N2 - (intOf q).toNat)
  case atStart=>exact⟨0,by omega,rfl,HE.out⟩
  case round =>
    obtain⟨k,hkN,rfl,hK⟩:=hrel
    have hsr:=hK.below.size
    obtain⟨l1,l2,l3,l4⟩:=hK.lt
    by_cases hk:k < N2
    · obtain⟨g,off,rfl,hg⟩:=HGS.out (by omega)
      have hkx:k < P.e.shared.length:=by rw [← HN2.out];exact hk
      have hat:=((HSL.out.below ((HB1.out.mono hBw).trans (hK.below.mono (by omega)))).at rfl k hkx).2
      have htk:fnames (P.e.shared.take (k+1))=fnames (P.e.shared.take k) ++ [P.e.shared[k].name]:=by unfold fnames;rw [List.take_succ_eq_append_getElem hkx,List.map_append];rfl
      generalize P.e.shared[k] = a at hat htk
      obtain⟨p0,p1,p2,p3⟩:=cells4F hat
      obtain⟨W5,hW5⟩:∃ W5,W5=wr.alloc (.cells #[.string a.name,.int .u8 a.t.k,.string a.t.n,.int .i64 a.t.z] 57):=⟨_,rfl⟩
      have hb5:Below wr.heap.size wr W5:=by rw [hW5];exact below_box wr _
      have hz5:W5.heap.size=wr.heap.size+1:=by rw [hW5];simp
      have k0:=own4F (show W5.heap[wr.heap.size]? = some (.cells #[.string a.name,.int .u8 a.t.k,.string a.t.n,.int .i64 a.t.z] 57 (0,0)) by rw [hW5];exact (MapKept.heap_alloc _ _).1)
      have hK5:=(hK.keeps hb5).keeps (Below.refl _ _).drew
      obtain⟨d0,-,-⟩:=own3E (hK.keeps hb5).own
      have HK5:=hid hK5
      have HTK:=hid htk
      have HW5:=hid hW5
      have hgs:g < wr.heap.size:=by omega
      clear hat htk hK hb5 hK5 hW5
      go_wp2_with fail
      rw [← HW5.out]
      refine wp_region_late (S:=SameTo W5.heap.size W5) (fun j=>decide (7≤j)) (by kernel_rfl) (SameTo.drew _ _) (fun hSw=>?_)
      refine wpAnyL_take (i:=0) (v:=.pointer (some ⟨d,0,none⟩)) rfl (by kernel_rfl) (by kernel_rfl) (by kernel_rfl) rfl (by kernel_rfl) (fun _ _ _ h=>h) (Or.inl ⟨by rfl,fun W hW=>?_⟩) hSw ?_
      · first|(go_simp;done)|rfl
      try simp only [Act.put]
      refine wpAnyL_take (i:=1) (v:=.pointer (some ⟨d,0,none⟩)) rfl (by kernel_rfl) (by kernel_rfl) (by kernel_rfl) rfl (by kernel_rfl) (fun _ _ _ h=>h) (Or.inl ⟨by rfl,fun W hW=>?_⟩) hSw ?_
      · first|(go_simp;done)|rfl
      try simp only [Act.put]
      refine wpAnyL_take (i:=2) (v:=.pointer (some ⟨d,0,none⟩)) rfl (by kernel_rfl) (by kernel_rfl) (by kernel_rfl) rfl (by kernel_rfl) (fun _ _ _ h=>h) (Or.inl ⟨by rfl,fun W hW=>?_⟩) hSw ?_
      · first|(go_simp;done)|rfl
      try simp only [Act.put]
      refine wpAnyL_take (i:=3) (v:=.map (some ms)) rfl (by kernel_rfl) (by kernel_rfl) (by kernel_rfl) rfl (by kernel_rfl) (fun _ _ _ h=>h) (Or.inl ⟨by rfl,fun W hW=>?_⟩) hSw ?_
      · have d0:=hW.cell (by dsimp only;omega) d0
        first|(go_simp;done)|rfl
      try simp only [Act.put]
      refine wpAnyL_take (i:=4) (v:=.pointer (some ⟨wr.heap.size,0,none⟩)) rfl (by kernel_rfl) (by kernel_rfl) (by kernel_rfl) rfl (by kernel_rfl) (fun _ _ _ h=>h) (Or.inl ⟨by rfl,fun W hW=>?_⟩) hSw ?_
      · first|(go_simp;done)|rfl
      try simp only [Act.put]
      refine wpAnyL_take (i:=5) (v:=.string a.name) rfl (by kernel_rfl) (by kernel_rfl) (by kernel_rfl) rfl (by kernel_rfl) (fun _ _ _ h=>h) (Or.inl ⟨by rfl,fun W hW=>?_⟩) hSw ?_
      · have k0:=hW.cell (by dsimp only;omega) k0
        first|(go_simp;done)|rfl
      try simp only [Act.put]
      refine wpAnyL_take (i:=6) (v:=.agg #[]) rfl (by kernel_rfl) (by kernel_rfl) (by kernel_rfl) rfl (by kernel_rfl) (fun _ _ _ h=>h) (Or.inl ⟨by rfl,fun W hW=>?_⟩) hSw ?_
      · first|(go_simp;done)|rfl
      try simp only [Act.put]
      obtain⟨w6,hrun,hS6,hg6⟩:=put_st (w:=W5.drew) (m:=ms) HK5.out.s a.name
      refine wpAnyL_only (rs:=[7]) (by kernel_rfl) (by simp) (by rfl) ?_
      refine wpAny_one (i:=7) (by kernel_rfl) rfl (fun J hK=>?_)
      rw [if_pos (by rfl)]
      go_simp
      refine hK.out _ _ ?_
      clear hK J
      try simp only [Act.put,q1,q2,q3]
      refine wpAny_done (by kernel_rfl) ?_ _
      have HN5:=hid (HK5.out.shared hg6 hS6 (fun x=>by rw [HTK.out,has_snoc]))
      clear hS6 hg6 hrun d0 k0 p0 p1 p2 p3
      go_wp2_with fail
      go_roundw
      case rel=>exact⟨k+1,by omega,by go_num,HN5.out⟩
      case measure=>simp [intOf];omega
    · have hkk:P.e.shared.take k=P.e.shared:=List.take_of_length_le (by rw [← HN2.out];omega)
      have hO3:=(hK.below.block w.heap.size (by omega)).trans HO1.out
      obtain⟨q0,q1,q2,q3⟩:=cells_prog _ _ _ _ hO3
      have HKK:=hid hkk
      have HK:=hid hK
      clear hK hO3 hkk
      go_wp2_with fail
      clear q0 q1 q2 q3
      obtain⟨ks,hks⟩:∃ ks,ks=k:=⟨_,rfl⟩
      have HKS:=hid hks
      go_loopw [40] (fun q wr=>∃ k:Nat,k≤N3∧q = .int .i64 k∧NewK P ks k W1 wr d ms mb mm) (fun q _=>N3 - (intOf q).toNat)
      case atStart=>exact⟨0,by omega,rfl,by rw [HKS.out];exact HK.out⟩
      case round =>
        obtain⟨j,hjN,rfl,hK⟩:=hrel
        have hsr:=hK.below.size
        obtain⟨l1,l2,l3,l4⟩:=hK.lt
        by_cases hj:j < N3
        · obtain⟨g,off,rfl,hg⟩:=HGF.out (by omega)
          have hjx:j < P.e.funcs.length:=by rw [← HN3.out];exact hj
          have hat:=((HFL.out.below ((HB1.out.mono hBw).trans (hK.below.mono (by omega)))).at rfl j hjx).2
          have htk:P.e.funcs.take (j+1)=P.e.funcs.take j ++ [P.e.funcs[j]]:=List.take_succ_eq_append_getElem hjx
          have hsp:P.e.funcs.take j ++ P.e.funcs[j] :: P.e.funcs.drop (j+1)=P.e.funcs:=by rw [← List.drop_eq_getElem_cons hjx,List.take_append_drop]
          have hfst:=HFF.out.first _ (List.getElem_mem hjx)
          have hma:=HFI.out _ (List.getElem_mem hjx)
          generalize P.e.funcs[j] = a at hat htk hsp hfst hma
          obtain⟨p0,p1,p2,p3,p4,p5⟩:=cells6F hat
          obtain⟨po,pc,ep,-⟩:=hma.lies.form
          obtain⟨pn,hpn⟩:∃ n,n=a.params.length:=⟨_,rfl⟩
          rw [ep,← hpn] at p1
          obtain⟨bo,bc,eb,-⟩:=hma.blies.form
          obtain⟨bn,hbn⟩:∃ n,n=a.body.length:=⟨_,rfl⟩
          rw [← hbn] at eb
          rw [eb] at p5
          have HEB:=hid eb
          rw [← hsp] at hfst
          obtain⟨W5,hW5⟩:∃ W5,W5=wr.alloc (.cells #[.string a.name,.slice po pn pc,.int .u8 a.res.k,.string a.res.n,.int .i64 a.res.z,.slice bo bn bc] 33):=⟨_,rfl⟩
          have hb5:Below wr.heap.size wr W5:=by rw [hW5];exact below_box wr _
          have hz5:W5.heap.size=wr.heap.size+1:=by rw [hW5];simp
          obtain⟨k0,-,k5⟩:=own6F (show W5.heap[wr.heap.size]? = some (.cells #[.string a.name,.slice po pn pc,.int .u8 a.res.k,.string a.res.n,.int .i64 a.res.z,.slice bo bn bc] 33 (0,0)) by rw [hW5];exact (MapKept.heap_alloc _ _).1)
          have hK5:=(hK.keeps hb5).keeps (Below.refl _ _).drew
          obtain⟨-,d1,-⟩:=own3E (hK.keeps hb5).own
          have HK5:=hid hK5
          have HTK:=hid htk
          have HFS:=hid hfst
          have HW5:=hid hW5
          have hgs:g < wr.heap.size:=by omega
          clear hat htk hK hb5 hK5 hW5 hsp hfst hma ep hpn eb hbn
          go_wp2_with fail
          rw [← HW5.out]
          refine wp_region_late (S:=SameTo W5.heap.size W5) (fun j=>decide (8≤j)) (by kernel_rfl) (SameTo.drew _ _) (fun hSw=>?_)
          refine wpAnyL_take (i:=0) (v:=.pointer (some ⟨d,0,none⟩)) rfl (by kernel_rfl) (by kernel_rfl) (by kernel_rfl) rfl (by kernel_rfl) (fun _ _ _ h=>h) (Or.inl ⟨by rfl,fun W hW=>?_⟩) hSw ?_
          · first|(go_simp;done)|rfl
          try simp only [Act.put]
          refine wpAnyL_take (i:=1) (v:=.pointer (some ⟨d,0,none⟩)) rfl (by kernel_rfl) (by kernel_rfl) (by kernel_rfl) rfl (by kernel_rfl) (fun _ _ _ h=>h) (Or.inl ⟨by rfl,fun W hW=>?_⟩) hSw ?_
          · first|(go_simp;done)|rfl
          try simp only [Act.put]
          refine wpAnyL_take (i:=2) (v:=.pointer (some ⟨d,1,none⟩)) rfl (by kernel_rfl) (by kernel_rfl) (by kernel_rfl) rfl (by kernel_rfl) (fun _ _ _ h=>h) (Or.inl ⟨by rfl,fun W hW=>?_⟩) hSw ?_
          · first|(go_simp;done)|rfl
          try simp only [Act.put]
          refine wpAnyL_take (i:=3) (v:=.map (some mb)) rfl (by kernel_rfl) (by kernel_rfl) (by kernel_rfl) rfl (by kernel_rfl) (fun _ _ _ h=>h) (Or.inl ⟨by rfl,fun W hW=>?_⟩) hSw ?_
          · have d1:=hW.cell (by dsimp only;omega) d1
            first|(go_simp;done)|rfl
          try simp only [Act.put]
          refine wpAnyL_take (i:=4) (v:=.pointer (some ⟨wr.heap.size,0,none⟩)) rfl (by kernel_rfl) (by kernel_rfl) (by kernel_rfl) rfl (by kernel_rfl) (fun _ _ _ h=>h) (Or.inl ⟨by rfl,fun W hW=>?_⟩) hSw ?_
          · first|(go_simp;done)|rfl
          try simp only [Act.put]
          refine wpAnyL_take (i:=5) (v:=.string a.name) rfl (by kernel_rfl) (by kernel_rfl) (by kernel_rfl) rfl (by kernel_rfl) (fun _ _ _ h=>h) (Or.inl ⟨by rfl,fun W hW=>?_⟩) hSw ?_
          · have k0:=hW.cell (by dsimp only;omega) k0
            first|(go_simp;done)|rfl
          try simp only [Act.put]
          refine wpAnyL_take (i:=6) (v:=.pointer (some ⟨wr.heap.size,5,none⟩)) rfl (by kernel_rfl) (by kernel_rfl) (by kernel_rfl) rfl (by kernel_rfl) (fun _ _ _ h=>h) (Or.inl ⟨by rfl,fun W hW=>?_⟩) hSw ?_
          · first|(go_simp;done)|rfl
          try simp only [Act.put]
          refine wpAnyL_take (i:=7) (v:=.slice bo bn bc) rfl (by kernel_rfl) (by kernel_rfl) (by kernel_rfl) rfl (by kernel_rfl) (fun _ _ _ h=>h) (Or.inl ⟨by rfl,fun W hW=>?_⟩) hSw ?_
          · have k5:=hW.cell (by dsimp only;omega) k5
            first|(go_simp;done)|rfl
          try simp only [Act.put]
          obtain⟨w6,hrun,hS6,hg6⟩:=put_bd (w:=W5.drew) (m:=mb) HK5.out.b HFS.out
          rw [HEB.out] at hrun
          refine wpAnyL_only (rs:=[8]) (by kernel_rfl) (by simp) (by rfl) ?_
          refine wpAny_one (i:=8) (by kernel_rfl) rfl (fun J hK=>?_)
          rw [if_pos (by rfl)]
          go_simp
          refine hK.out _ _ ?_
          clear hK J
          try simp only [Act.put,q1,q2,q3]
          refine wpAny_done (by kernel_rfl) ?_ _
          have HN5:=hid (HK5.out.bodies hg6 (by rw [HTK.out];exact hS6))
          clear hS6 hg6 hrun d1 k0 k5 p0 p1 p2 p3 p4 p5
          go_wp2_with fail
          go_roundw
          case rel=>exact⟨j+1,by omega,by go_num,HN5.out⟩
          case measure=>simp [intOf];omega
        · have hjj:P.e.funcs.take j=P.e.funcs:=List.take_of_length_le (by rw [← HN3.out];omega)
          have HJ:=hid hjj
          have HK9:=hid hK
          clear hK hjj
          go_wp2_with fail
          go_ret
          have hk:=HK9.out
          have hs:=hk.s
          rw [HKS.out,HKK.out] at hs
          have hb:=hk.b
          rw [HJ.out] at hb
          refine⟨d,ms,mb,mm,rfl,⟨hk.own,hs,hb,⟨[],hk.m,fun s v h=>by cases h⟩,by have:=hk.ne;omega,by have:=hk.ne;omega,by have:=hk.ne;omega,by have:=hk.new;omega⟩,by have:=hk.new;omega,by have:=hk.new;omega,HB1.out.trans (hk.below.mono (by omega))⟩
end Go.Proofs.YtdhieihcmnpneaaGreatDoor
