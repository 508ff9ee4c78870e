/- The statement on a function more, at every program and every function. -/
import Derived.Test.YtdhieihcmnpneaaGreatDoorRows
import Derived.Test.YtdhieihcmnpneaaGreatDoorTypWt
import Derived.Test.YtdhieihcmnpneaaGreatDoorEffSame
import Derived.Test.YtdhieihcmnpneaaGreatDoorEffMoreP
import Derived.Test.YtdhieihcmnpneaaGreatDoorEffAlive
import Derived.Test.YtdhieihcmnpneaaGreatDoorGTwinB
import Derived.Test.YtdhieihcmnpneaaGreatDoorGNew
import Derived.ArgAppend
namespace Go.Proofs.YtdhieihcmnpneaaGreatDoor
open Lib (hid)
set_option maxHeartbeats 16000000
open Go.RowKit
attribute [local go_sem ↓] bls_eq bld_eq
set_option maxRecDepth 100000
theorem wp_append_run {P:Program} {w:World} {o:Oper} {a:Act} {K:Act→World→Prop} {Q:Exit→Act→World→Prop} (s x:Operand) (t:TypeId)
    (ho:o.op = .call { callee:=.builtin .append,args:=#[s,x],argTypes:=#[t,t] }) {v1 v2 v:Value} {w':World} (hs:a.eval s=v1) (hx:a.eval x=v2)
    (hr:(Builtin.append_ #[t,t] o.type #[v1,v2]).run P w = .ok v w') (h:K (a.put o.dst v) w'):o.wp P a w K Q:=by
  unfold Oper.wp execOp
  simp only [ho,resolve,invoke,builtin,Sem.run_bind,Sem.run_pure,Result.andThen_ok,List.map_toArray,List.map_cons,List.map_nil,hs,hx,hr]
  exact h
structure TwQ (P:Pr) (w w':World) (Q:Pr) (ra sa fa ta:Nat):Prop where
  tw:TwP P w w' Q
  rv:Q.e.rv = .slice (some ⟨ra,0,none⟩) P.e.records.length (P.e.records.length+2)
  sv:Q.e.sv = .slice (some ⟨sa,0,none⟩) P.e.shared.length (P.e.shared.length+2)
  fv:Q.e.fv = .slice (some ⟨fa,0,none⟩) P.e.funcs.length (P.e.funcs.length+2)
  tv:Q.tv = .slice (some ⟨ta,0,none⟩) P.threads.length (P.threads.length+2)
theorem TwP.quad {P Q:Pr} {w w':World} (h:TwP P w w' Q):∃ ra sa fa ta,TwQ P w w' Q ra sa fa ta:=by
  obtain⟨a,_,_,_,_,h1,_⟩:=h.recs
  obtain⟨b,_,_,_,_,h2,_⟩:=h.shared
  obtain⟨c,_,_,_,_,h3,_⟩:=h.funcs
  obtain⟨d,_,_,_,_,h4,_⟩:=h.threads
  exact⟨_,_,_,_,h,h1.val,h2.val,h3.val,h4.val⟩
theorem own_lies {w:World} {L fa n c:Nat} {l:List Fn} (h:w.ownsRow L 33 6 (.slice (some ⟨fa,0,none⟩) n c) n (l.flatMap Fn.cells)) (hn:l.length=n) (hr:n≤140737488351232) :
    ∀ u:World,u.heap[fa]? = w.heap[fa]? → LiesG Fn.cells 6 u w.heap.size (.slice (some ⟨fa,0,none⟩) n c) l:=by
  intro u hu
  rcases h.2 with ⟨h1,_⟩|⟨g,cap,cur,hv,_,hg,_,_,_,ht⟩
  · cases h1
  · injection hv with h1 h2 h3
    injection h1 with h1
    injection h1 with h1
    subst h1
    refine⟨some ⟨fa,0,none⟩,c,by rw [hn],by omega,.inr ⟨fa,0,rfl,(Array.getElem?_eq_some_iff.1 hg).1,fun i x hx j v hv=>?_⟩⟩
    rw [Lib.cell_of_heap (hu.trans hg),Nat.zero_add]
    have h4:=flat_at ncells_len l [] i x hx j v hv
    rw [List.append_nil,← ht,List.getElem?_take] at h4
    split at h4
    · rw [← Array.getElem?_toList];exact h4
    · cases h4
def oneP (b:Nat) (F:Fn):Pr:=⟨⟨.slice none 0 0,[],.slice none 0 0,[],.slice (some ⟨b,0,none⟩) 1 1,[F]⟩,.slice none 0 0,[]⟩
def sizeF (F:Fn):Nat:=F.params.length+St.wts F.body
theorem size_one (b:Nat) (F:Fn):sizeP (oneP b F)=1+sizeF F:=by
  unfold sizeP oneP sizeF
  simp only [List.length_nil,List.length_cons,fieldsN,bodiesN,listsN]
  omega
theorem lies_nil {α:Type} (cells:α→List Value) (k:Nat) (w:World) (B:Nat):LiesG cells k w B (.slice none 0 0) []:=⟨none,0,rfl,by simp,.inl rfl⟩
theorem one_in {w:World} {b B:Nat} {F:Fn} (hI:NIn w B F) (hb:b < B) (h:w.heap[b]? = some (.cells F.cells.toArray 33 (0,0))):PIn w B (oneP b F):=
  ⟨⟨lies_nil _ _ _ _,(fun a h=>by cases h),lies_nil _ _ _ _,(fun a h=>by cases h),⟨some ⟨b,0,none⟩,1,rfl,by simp [oneP],.inr ⟨b,0,rfl,hb,fun i x hx j u hu=>by
    cases i with
    | zero =>
      obtain rfl:F=x:=by simpa [oneP] using hx
      rw [Lib.cell_of_heap h]
      simpa using hu
    | succ i=>simp [oneP] at hx⟩⟩,(fun a ha=>by
    obtain rfl:a=F:=by simpa [oneP] using ha
    exact hI)⟩,lies_nil _ _ _ _,(fun a h=>by cases h)⟩
structure KeepM (w:World) (c d:Array Value) (W:World):Prop where
  below:Below w.heap.size w W
  own:W.heap[w.heap.size]? = some (.cells c 27 (0,0))
  fn:W.heap[w.heap.size+1]? = some (.cells d 33 (0,0))
theorem KeepM.lt {w W:World} {c d:Array Value} (h:KeepM w c d W):w.heap.size+1 < W.heap.size:=(Array.getElem?_eq_some_iff.1 h.fn).1
theorem KeepM.step {w W W':World} {c d:Array Value} (h:KeepM w c d W) (hb:Below W.heap.size W W'):KeepM w c d W':=
  ⟨h.below.trans (hb.mono h.below.size),(hb.block _ (Nat.lt_of_succ_lt h.lt)).trans h.own,(hb.block _ h.lt).trans h.fn⟩
theorem KeepM.alloc {w W:World} {c d:Array Value} (h:KeepM w c d W) (o:Obj):KeepM w c d (W.alloc o):=h.step (below_box W o)
theorem KeepM.drew {w W:World} {c d:Array Value} (h:KeepM w c d W):KeepM w c d W.drew:=h.step (Below.refl _ _).drew
theorem KeepM.put {w W W':World} {c d:Array Value} {b:Nat} {o:Obj} (h:KeepM w c d W) (hp:Put b o W W') (hb:w.heap.size+2≤b):KeepM w c d W':=
  ⟨hp.below h.below (by omega),(hp.rest _ (by omega)).trans h.own,(hp.rest _ (by omega)).trans h.fn⟩
theorem KeepM.mk2 (w:World) (c d:Array Value):KeepM w c d ((w.alloc (.cells c 27)).alloc (.cells d 33)):=by
  refine⟨(below_box w _).alloc (by simp) _, ?_, ?_⟩
  · rw [Below.heap_alloc _ _ _ (by simp)];exact (MapKept.heap_alloc _ _).1
  · have:=(MapKept.heap_alloc (w.alloc (.cells c 27)) (.cells d 33)).1
    simpa using this
structure KeepL (w w2:World) (c d:Array Value) (W:World):Prop where
  m:KeepM w c d W
  l:Below w2.heap.size w2 W
theorem KeepL.step {w w2 W W':World} {c d:Array Value} (h:KeepL w w2 c d W) (hb:Below W.heap.size W W'):KeepL w w2 c d W':=⟨h.m.step hb,h.l.trans (hb.mono h.l.size)⟩
theorem KeepL.drew {w w2 W:World} {c d:Array Value} (h:KeepL w w2 c d W):KeepL w w2 c d W.drew:=h.step (Below.refl _ _).drew
theorem KeepL.put {w w2 W W':World} {c d:Array Value} {b:Nat} {o:Obj} (h:KeepL w w2 c d W) (hp:Put b o W W') (hb:w.heap.size+2≤b) (hb2:w2.heap.size≤b):KeepL w w2 c d W':=⟨h.m.put hp hb,hp.below h.l hb2⟩
theorem KeepL.grown {w w2 W W':World} {c d:Array Value} {b:Nat} (h:KeepL w w2 c d W) (hp:W.grownBy W' (some b)) (hb:w.heap.size+2≤b) (hb2:w2.heap.size≤b):KeepL w w2 c d W':=by
  have h1:=h.m.lt
  have h2:=h.l.size
  have g:∀ L,L≤W.heap.size→L≤b→Below L W W':=fun L hL hLb=>⟨hp.os,hp.tape,hp.output,hp.size,fun k hk=>hp.block k (by omega) (by intro e;cases e;omega)⟩
  exact⟨⟨h.m.below.trans (g _ (by omega) (by omega)),(hp.block _ (by omega) (by intro e;cases e;omega)).trans h.m.own,(hp.block _ h1 (by intro e;cases e;omega)).trans h.m.fn⟩,h.l.trans (g _ h2 hb2)⟩
theorem own6M {w:World} {b:Nat} {T:TypeId} {fr:Nat × Nat} {a0 a1 a2 a3 a4 a5:Value} (h:w.heap[b]? = some (.cells #[a0,a1,a2,a3,a4,a5] T fr)) :
    w.cell? ⟨b,0,none⟩ = some a0∧w.cell? ⟨b,1,none⟩ = some a1∧w.cell? ⟨b,2,none⟩ = some a2∧w.cell? ⟨b,3,none⟩ = some a3∧w.cell? ⟨b,4,none⟩ = some a4∧w.cell? ⟨b,5,none⟩ = some a5:=
  ⟨by rw [Lib.cell_of_heap h];rfl,by rw [Lib.cell_of_heap h];rfl,by rw [Lib.cell_of_heap h];rfl,by rw [Lib.cell_of_heap h];rfl,by rw [Lib.cell_of_heap h];rfl,by rw [Lib.cell_of_heap h];rfl⟩
def Fair (P:Pr) (F:Fn) (big:Bool):Prop:=big=false→sizeP P≤262144∧F.params.length≤262144∧St.wts F.body≤262144
theorem fair_of {P:Pr} {F:Fn} {b:Nat} {m n:Int} (m0:0≤m) (n0:0≤n) (hm:m≤262144→sizeP P≤262144) (hn:n≤262144→sizeP (oneP b F)≤262144):Fair P F (decide (262144 < m+n)):=by
  intro h
  have h1:¬ 262144 < m+n:=of_decide_eq_false h
  have h2:=hn (by omega)
  rw [size_one] at h2
  unfold sizeF at h2
  exact⟨hm (by omega),by omega,by omega⟩
theorem reads_own {w:World} {L n:Nat} {v:Value} {x:List Int} (h:w.ownsRow L 54 1 v n (x.map fun i=>.int .u8 i)):∃ ao c,v = .slice ao n c∧n≤c∧c≤9223372036854775807∧Reads w ao n x:=by
  have hl:x.length=n:=by have:=h.1;rw [List.length_map] at this;omega
  rcases h.2 with ⟨hv,h0⟩|⟨g,cap,cur,hv,_,hg,hn2,hc,hs,ht⟩
  · exact⟨none,0,by rw [hv,h0],by omega,by omega,hl,fun h=>by omega⟩
  · refine⟨some ⟨g,0,none⟩,cap,hv,hn2,by unfold maxLen at hc;omega,hl,fun h0=>⟨g,rfl,(Array.getElem?_eq_some_iff.1 hg).1,fun i v hi=>?_⟩⟩
    have hil:i < n:=by have:=(List.getElem?_eq_some_iff.1 hi).1;omega
    have h1:(x.map fun i=>Value.int .u8 i)[i]? = some (.int .u8 v):=by rw [List.getElem?_map,hi];rfl
    rw [← ht,List.getElem?_take,if_pos (by omega)] at h1
    rw [Lib.cell_of_heap hg,← Array.getElem?_toList];exact h1
def effI (P:Pr):List Int:=P.e.funcs.map fun f=>(effF P.e f.name).val
theorem effI_map (P:Pr):P.e.funcs.map (effV P)=(effI P).map fun i=>.int .u8 i:=by
  unfold effI effV
  rw [List.map_map];rfl
theorem effI_alike {P Q:Pr} (hb:Q.bare=P.bare):effI Q=effI P:=by
  have hn:nnames Q.e.funcs=nnames P.e.funcs:=by rw [← nnames_bare Q.e.funcs,← nnames_bare P.e.funcs];exact congrArg (fun z=>nnames z.e.funcs) hb
  have h:∀ p:Pr,effI p=(nnames p.e.funcs).map fun s=>(effF p.e s).val:=fun p=>by unfold effI nnames;rw [List.map_map];rfl
  rw [h,h,hn]
  congr 1
  funext s
  rw [effF_alike hb]
theorem effI_more {P:Pr} (h:EffOk P) (v t:Value) (l:List Th) (g:Fn):(effI ⟨moreE P.e v g,t,l⟩).take P.e.funcs.length=effI P:=by
  unfold effI
  show ((P.e.funcs ++ [g]).map fun f=>(effF (moreE P.e v g) f.name).val).take P.e.funcs.length=_
  rw [List.map_append,List.take_left' (by rw [List.length_map])]
  refine List.map_congr_left fun f hf=>?_
  rw [effF_more h v g (List.mem_map.2 ⟨f,hf,rfl⟩)]
theorem names_len {P Q:Pr} (hb:Q.bare=P.bare):Q.e.funcs.length=P.e.funcs.length:=by
  have:=congrArg (fun z=>z.e.funcs.length) hb
  simpa [Pr.bare,En.bare] using this
theorem more_append {w:World} {fa N b:Nat} {R:Array Value} {l:List Fn} {t1 t2:List Value} (y:Fn) (hr:w.heap[fa]? = some (.cells R 33 (0,0))) (hR:R.toList=l.flatMap Fn.cells ++ (t1 ++ t2)) (h1:t1.length=6) (h2:t2.length=6) (hl:l.length=N) (hN:N≤262144)
    (hb:w.heap[b]? = some (.cells #[.string y.name,y.pv,.int .u8 y.res.k,.string y.res.n,.int .i64 y.res.z,y.bv] 33 (0,0))) (hy:∀ u ∈ y.cells,u.oneCell'=true) :
    ∃ w',(Builtin.append_ #[24,24] 24 #[.slice (some ⟨fa,0,none⟩) N (N+2),.slice (some ⟨b,0,none⟩) 1 1]).run Tryz.prog w = .ok (.slice (some ⟨fa,0,none⟩) (N+1) (N+2)) w' ∧
      (∀ u:World,u.heap[fa]? = w'.heap[fa]? → LiesG Fn.cells 6 u w'.heap.size (.slice (some ⟨fa,0,none⟩) (N+1) (N+2)) (l ++ [y]))∧w.grownBy w' (some fa):=by
  obtain⟨i0,hi,hz0,hz1,hz2⟩:=info_parts twiN
  have hfl:(l.flatMap Fn.cells).length=N * 6:=by rw [flat_len ncells_len,hl]
  have hown:w.ownsRow 0 33 6 (.slice (some ⟨fa,0,none⟩) N (N+2)) N (l.flatMap Fn.cells):=by
    refine⟨hfl,.inr ⟨fa,N+2,R,rfl,Nat.zero_le _,hr,by omega,by unfold maxLen;omega, ?_, ?_⟩⟩
    · rw [← Array.length_toList,hR,List.length_append,List.length_append,hfl,h1,h2];omega
    · rw [hR,← hfl];exact List.take_left
  obtain⟨w',hrun,hown',hg⟩:=run_append_fits (P:=Tryz.prog) (w:=w) 0 24 24 33 i0 6 Tryz.underlying24 hi hz1 fa N (N+2) _ hown ⟨b,0,none⟩ 1 1 y.cells rfl
    (fun j u hu=>by rw [Addr.add_mid,Nat.zero_add,Lib.cell_of_heap hb];simpa [Fn.cells] using hu) hy (by omega)
  refine⟨w',hrun, ?_,hg⟩
  have e:l.flatMap Fn.cells ++ y.cells=(l ++ [y]).flatMap Fn.cells:=by rw [List.flatMap_append];simp
  rw [e] at hown'
  exact own_lies hown' (by rw [List.length_append,hl];rfl) (by omega)
theorem more_in {u:World} {B B':Nat} {Q:Pr} {v:Value} {y:Fn} (h:ButF u B Q) (hB:B≤B') (hl:LiesG Fn.cells 6 u B' v (Q.e.funcs ++ [y])) (hy:NIn u B' y):PIn u B' ⟨moreE Q.e v y,Q.tv,Q.threads⟩:=
  ⟨⟨h.rlies.up hB,fun a ha=>(h.records a ha).up hB,h.slies.up hB,h.shared,hl,fun a ha=>by
    rcases List.mem_append.1 ha with ha|ha
    · exact (h.funcs a ha).up hB
    · obtain rfl:a=y:=by simpa using ha
      exact hy⟩,h.tlies.up hB,fun a ha=>(h.threads a ha).up hB⟩
theorem fn_one {u:World} {B:Nat} {y:Fn} (h:NIn u B y):∀ v ∈ y.cells,v.oneCell'=true:=by
  obtain⟨_,_,e1,-⟩:=h.lies.form
  obtain⟨_,_,e2,-⟩:=h.blies.form
  intro v hv
  simp only [Fn.cells,e1,e2,List.mem_cons,List.not_mem_nil,or_false] at hv
  rcases hv with rfl|rfl|rfl|rfl|rfl|rfl <;> rfl
theorem made_fn (nm:ByteArray) (pv:Value) (rk:Int) (rn:ByteArray) (rz:Int) (bv:Value) (w:World):(bls 24 1 #[(0,.agg #[.string nm,pv,.int .u8 rk,.string rn,.int .i64 rz,bv])]).run Tryz.prog w = .ok (.slice (some ⟨w.heap.size,0,none⟩) 1 1) (w.alloc (.cells #[.string nm,pv,.int .u8 rk,.string rn,.int .i64 rz,bv] 33)):=
  bls_of 24 33 1 6 #[(0,.agg #[.string nm,pv,.int .u8 rk,.string rn,.int .i64 rz,bv])] #[.string nm,pv,.int .u8 rk,.string rn,.int .i64 rz,bv] (by kernel_rfl) (by kernel_rfl) (by kernel_rfl) (by omega) (by omega) (by kernel_rfl) (by kernel_rfl) w
structure Sm (q g:Nat) (v:Value) (d:Array Value) (W:World):Prop where
  cell:W.cell? ⟨q,2,none⟩ = some v
  fn:W.heap[g]? = some (.cells d 33 (0,0))
theorem more_law (P:Pr) (F:Fn) (w:World) (hI:PIn w w.heap.size P) (hF:NIn w w.heap.size F) (hcap:CapF P) (hT:Tab w) :
    Calls Tryz.prog 3 #[.agg #[P.e.rv,P.e.sv,P.e.fv,P.tv],.agg #[.string F.name,F.pv,.int .u8 F.res.k,.string F.res.n,.int .i64 F.res.z,F.bv]] w fun e w'=>e = .returned (.bool true)∧Below w.heap.size w w':=by
  have hPS:=fun (u:World) (hu:Below w.heap.size w u)=>psize_any P w.heap.size u (hI.keeps hu) hu.size
  have hP2:∀ (b:Nat) (u:World) (hu:Below w.heap.size w u) (hb:u.heap[b]? = some (.cells #[.string F.name,F.pv,.int .u8 F.res.k,.string F.res.n,.int .i64 F.res.z,F.bv] 33 (0,0))),
      Calls Tryz.prog 5 #[.agg #[.slice none 0 0,.slice none 0 0,.slice (some ⟨b,0,none⟩) 1 1,.slice none 0 0]] u fun e w'=>SizeE (sizeP (oneP b F)) e∧Below u.heap.size u w':=
    fun b u hu hb=>psize_any (oneP b F) u.heap.size u (one_in ((hF.keeps hu).up hu.size) (Array.getElem?_eq_some_iff.1 hb).1 hb) (Nat.le_refl _)
  have hOF:=fun (u:World) (hu:Below w.heap.size w u)=>eff_of P w.heap.size u hu.size (hI.keeps hu) hcap
  have hTW:=fun (u:World) (hu:Below w.heap.size w u) (hs:sizeP P≤262144)=>twinProgram_any P w.heap.size u (hI.keeps hu) hu.size hs (hT.keeps hu)
  have hTF:=fun (u:World) (hu:Below w.heap.size w u) (hs:F.params.length≤262144∧St.wts F.body≤262144)=>twinFunc_any F w.heap.size u (hF.keeps hu) hu.size hs (hT.keeps hu)
  obtain⟨rv,hrv⟩:∃ v,v=P.e.rv:=⟨_,rfl⟩
  obtain⟨sv,hsv⟩:∃ v,v=P.e.sv:=⟨_,rfl⟩
  obtain⟨fv,hfv⟩:∃ v,v=P.e.fv:=⟨_,rfl⟩
  obtain⟨tv,htv⟩:∃ v,v=P.tv:=⟨_,rfl⟩
  obtain⟨nm,hnm⟩:∃ v,v=F.name:=⟨_,rfl⟩
  obtain⟨pv,hpv⟩:∃ v,v=F.pv:=⟨_,rfl⟩
  obtain⟨rk,hrk⟩:∃ v,v=F.res.k:=⟨_,rfl⟩
  obtain⟨rn,hrn⟩:∃ v,v=F.res.n:=⟨_,rfl⟩
  obtain⟨rz,hrz⟩:∃ v,v=F.res.z:=⟨_,rfl⟩
  obtain⟨bv,hbv⟩:∃ v,v=F.bv:=⟨_,rfl⟩
  simp only [← hrv,← hsv,← hfv,← htv] at hPS hOF hTW ⊢
  simp only [← hnm,← hpv,← hrk,← hrn,← hrz,← hbv] at hP2 hTF ⊢
  obtain⟨W0,hW0⟩:∃ W0,W0=(w.alloc (.cells #[rv,sv,fv,tv] 27)).alloc (.cells #[.string nm,pv,.int .u8 rk,.string rn,.int .i64 rz,bv] 33):=⟨_,rfl⟩
  have hK0:KeepM w #[rv,sv,fv,tv] #[.string nm,pv,.int .u8 rk,.string rn,.int .i64 rz,bv] W0:=by rw [hW0];exact KeepM.mk2 _ _ _
  have HPS:=hid hPS
  have HP2:=hid hP2
  have HOF:=hid hOF
  have HTW:=hid hTW
  have HTF:=hid hTF
  have HK0:=hid hK0
  have HW0:=hid hW0
  have HAL:=hid (fun w=>effalive_any w)
  have hmF:=made_fn
  have hmP:=fun (b:Nat)=>bld_of 27 #[(2,.slice (some ⟨b,0,none⟩) 1 1)] #[.slice none 0 0,.slice none 0 0,.slice (some ⟨b,0,none⟩) 1 1,.slice none 0 0] (by kernel_rfl)
  have hmI:=fun (m n:Int)=>bls_of 47 3 2 1 #[(0,.int .i64 m),(1,.int .i64 n)] #[.int .i64 m,.int .i64 n] (by kernel_rfl) (by kernel_rfl) (by kernel_rfl) (by omega) (by omega) (by kernel_rfl) (by kernel_rfl)
  clear hPS hP2 hOF hTW hTF hK0 hW0 hI hF hcap hT hrv hsv hfv htv hnm hpv hrk hrn hrz hbv
  go_enter Tryz.func3,Tryz.ntmps3
  go_wp2_with fail
  rw [← HW0.out]
  refine wp_mono (Q:=fun e a' w'=>e = .normal∧∃ v13 v15 v16 v17 v18 big,a'={ tmps:=#[.agg #[rv,sv,fv,tv],.agg #[.string nm,pv,.int .u8 rk,.string rn,.int .i64 rz,bv],.pointer (some ⟨w.heap.size,0,none⟩),.pointer (some ⟨w.heap.size+1,0,none⟩),.bool false,undef,undef,undef,undef,undef,undef,undef,.agg #[rv,sv,fv,tv],v13,.agg #[.string nm,pv,.int .u8 rk,.string rn,.int .i64 rz,bv],v15,v16,v17,v18,.bool big,undef,undef,undef,undef,undef,undef,undef,undef,undef,undef,undef,undef,undef,undef,undef,undef,undef,undef,undef,undef,undef,undef,undef,undef,undef,undef,undef,undef,undef,undef,undef,undef,undef,undef,undef,undef,undef,undef,undef,undef,undef,undef,undef,undef,undef,undef,undef,undef,undef,undef,undef,undef,undef,undef,undef,undef,undef,undef,undef,undef,undef,undef,undef,undef,undef,undef,undef,undef,undef,undef,undef,undef,undef,undef,undef,undef],defers:=[] }∧Fair P F big∧KeepM w #[rv,sv,fv,tv] #[.string nm,pv,.int .u8 rk,.string rn,.int .i64 rz,bv] w') ?_ ?_
  · have HKd:=hid HK0.out.drew
    refine wp_region_late (S:=KeepM w #[rv,sv,fv,tv] #[.string nm,pv,.int .u8 rk,.string rn,.int .i64 rz,bv]) (fun j=>decide (8≤j)) (by kernel_rfl) HK0.out.drew (fun hSw=>?_)
    refine wpAnyL_take (i:=0) (v:=.agg #[rv,sv,fv,tv]) rfl (by kernel_rfl) (by kernel_rfl) (by kernel_rfl) rfl (by kernel_rfl) (fun _ _ _ h=>by cases h.1) (Or.inl ⟨by rfl,fun W hW=>?_⟩) hSw ?_
    · (obtain⟨q0,q1,q2,q3⟩:=prog4 _ _ _ _ hW.own;first|(go_simp;done)|rfl)
    try simp only [Act.put,q1]
    refine wpAnyL_take (i:=2) (v:=.agg #[.string nm,pv,.int .u8 rk,.string rn,.int .i64 rz,bv]) rfl (by kernel_rfl) (by kernel_rfl) (by kernel_rfl) rfl (by kernel_rfl) (fun _ _ _ h=>by cases h.1) (Or.inl ⟨by rfl,fun W hW=>?_⟩) hSw ?_
    · (obtain⟨q0,q1,q2,q3,q4,q5⟩:=own6M hW.fn;first|(go_simp;done)|rfl)
    try simp only [Act.put]
    refine wpAnyL_ready (rs:=[1,3]) (by kernel_rfl) (by simp) (AllReadyL.cons rfl rfl (fun J hK=>?_) (AllReadyL.cons rfl rfl (fun J hK=>?_) AllReadyL.nil))
    · rw [if_pos (by rfl)]
      clear hSw
      go_simp
      refine (HPS.out _ HKd.out.below).mono ?_;rintro e w1 ⟨⟨n1,rfl,m0,m1,m2⟩,hb⟩
      have HK1:=hid (HKd.out.step hb)
      clear hb
      refine hK.out _ _ (HK1.out) (fun hSw=>?_)
      clear hK J
      try simp only [Act.put,q1,q2,q3]
      refine wpAnyL_ready (rs:=[3]) (by kernel_rfl) (by simp) (AllReadyL.cons rfl rfl (fun J hK=>?_) AllReadyL.nil)
      rw [if_pos (by rfl)]
      clear hSw
      go_simp

      refine hK.out _ _ (HK1.out.alloc _) (fun hSw=>?_)
      clear hK J
      try simp only [Act.put,q1,q2,q3]
      refine wpAnyL_take (i:=4) (v:=.agg #[.slice none 0 0,.slice none 0 0,.slice (some ⟨w1.heap.size,0,none⟩) 1 1,.slice none 0 0]) rfl (by kernel_rfl) (by kernel_rfl) (by kernel_rfl) rfl (by kernel_rfl) (fun _ _ _ h=>by cases h.1) (Or.inl ⟨by rfl,fun W hW=>?_⟩) hSw ?_
      · first|(go_simp;done)|rfl
      try simp only [Act.put,q1]
      refine wpAnyL_ready (rs:=[5]) (by kernel_rfl) (by simp) (AllReadyL.cons rfl rfl (fun J hK=>?_) AllReadyL.nil)
      have HK2:=hid (HK1.out.alloc (.cells #[.string nm,pv,.int .u8 rk,.string rn,.int .i64 rz,bv] 33))
      rw [if_pos (by rfl)]
      clear hSw
      go_simp
      refine (HP2.out w1.heap.size _ HK2.out.below (MapKept.heap_alloc _ _).1).mono ?_;rintro e w3 ⟨⟨n2,rfl,k0,k1,k2⟩,hb⟩
      have HK3:=hid (HK2.out.step hb)
      clear hb
      refine hK.out _ _ (HK3.out) (fun hSw=>?_)
      clear hK J
      try simp only [Act.put,q1,q2,q3]
      refine wpAnyL_ready (rs:=[6]) (by kernel_rfl) (by simp) (AllReadyL.cons rfl rfl (fun J hK=>?_) AllReadyL.nil)
      rw [if_pos (by rfl)]
      clear hSw
      go_simp

      refine hK.out _ _ (HK3.out.alloc _) (fun hSw=>?_)
      clear hK J
      try simp only [Act.put,q1,q2,q3]
      refine wpAnyL_ready (rs:=[7]) (by kernel_rfl) (by simp) (AllReadyL.cons rfl rfl (fun J hK=>?_) AllReadyL.nil)
      rw [if_pos (by rfl)]
      clear hSw
      go_simp
      refine (beyond2_any w3.heap.size n1 n2 3 (0,0) _ m0 m1 k0 k1 (MapKept.heap_alloc _ _).1).mono ?_;rintro e w' ⟨rfl,rfl⟩
      refine hK.out _ _ (HK3.out.alloc _) (fun hSw=>?_)
      clear hK J
      try simp only [Act.put,q1,q2,q3]
      refine⟨by kernel_rfl,rfl,_,_,_,_,_,_,rfl,fair_of m0 k0 m2 k2,HK3.out.alloc _⟩
    · have HK2:=hid (HKd.out.alloc (.cells #[.string nm,pv,.int .u8 rk,.string rn,.int .i64 rz,bv] 33))
      rw [if_pos (by rfl)]
      clear hSw
      go_simp

      refine hK.out _ _ (HK2.out) (fun hSw=>?_)
      clear hK J
      try simp only [Act.put,q1,q2,q3]
      refine wpAnyL_take (i:=4) (v:=.agg #[.slice none 0 0,.slice none 0 0,.slice (some ⟨W0.drew.heap.size,0,none⟩) 1 1,.slice none 0 0]) rfl (by kernel_rfl) (by kernel_rfl) (by kernel_rfl) rfl (by kernel_rfl) (fun _ _ _ h=>by cases h.1) (Or.inl ⟨by rfl,fun W hW=>?_⟩) hSw ?_
      · first|(go_simp;done)|rfl
      try simp only [Act.put,q1]
      refine wpAnyL_ready (rs:=[1]) (by kernel_rfl) (by simp) (AllReadyL.cons rfl rfl (fun J hK=>?_) AllReadyL.nil)
      have hr2:=(MapKept.heap_alloc W0.drew (.cells #[.string nm,pv,.int .u8 rk,.string rn,.int .i64 rz,bv] 33)).1
      rw [if_pos (by rfl)]
      clear hSw
      go_simp
      refine (HPS.out _ HK2.out.below).mono ?_;rintro e w3 ⟨⟨n1,rfl,m0,m1,m2⟩,hb⟩
      have HK3:=hid (HK2.out.step hb)
      have hr3:=(hb.block _ (Array.getElem?_eq_some_iff.1 hr2).1).trans hr2
      clear hb hr2
      refine hK.out _ _ (HK3.out) (fun hSw=>?_)
      clear hK J
      try simp only [Act.put,q1,q2,q3]
      refine wpAnyL_ready (rs:=[5]) (by kernel_rfl) (by simp) (AllReadyL.cons rfl rfl (fun J hK=>?_) AllReadyL.nil)
      rw [if_pos (by rfl)]
      clear hSw
      go_simp
      refine (HP2.out W0.drew.heap.size _ HK3.out.below hr3).mono ?_;rintro e w4 ⟨⟨n2,rfl,k0,k1,k2⟩,hb⟩
      have HK4:=hid (HK3.out.step hb)
      clear hb
      refine hK.out _ _ (HK4.out) (fun hSw=>?_)
      clear hK J
      try simp only [Act.put,q1,q2,q3]
      refine wpAnyL_ready (rs:=[6]) (by kernel_rfl) (by simp) (AllReadyL.cons rfl rfl (fun J hK=>?_) AllReadyL.nil)
      rw [if_pos (by rfl)]
      clear hSw
      go_simp

      refine hK.out _ _ (HK4.out.alloc _) (fun hSw=>?_)
      clear hK J
      try simp only [Act.put,q1,q2,q3]
      refine wpAnyL_ready (rs:=[7]) (by kernel_rfl) (by simp) (AllReadyL.cons rfl rfl (fun J hK=>?_) AllReadyL.nil)
      rw [if_pos (by rfl)]
      clear hSw
      go_simp
      refine (beyond2_any w4.heap.size n1 n2 3 (0,0) _ m0 m1 k0 k1 (MapKept.heap_alloc _ _).1).mono ?_;rintro e w' ⟨rfl,rfl⟩
      refine hK.out _ _ (HK4.out.alloc _) (fun hSw=>?_)
      clear hK J
      try simp only [Act.put,q1,q2,q3]
      refine⟨by kernel_rfl,rfl,_,_,_,_,_,_,rfl,fair_of m0 k0 m2 k2,HK4.out.alloc _⟩
  rintro e a' w1 ⟨rfl,v13,v15,v16,v17,v18,big,rfl,hfair,hK1⟩
  have HK1:=hid hK1
  clear hK1 HK0 HW0 hmI hmP
  obtain⟨q0,q1,q2,q3⟩:=prog4 _ _ _ _ HK1.out.own
  cases big
  case' true =>
    go_wp2_with fail
    go_ret
    exact⟨rfl,HK1.out.below⟩
  obtain⟨hsP,hsF⟩:=hfair rfl
  have hN3:P.e.funcs.length≤262144:=by unfold sizeP at hsP;omega
  have hN1:P.e.records.length≤262144:=by unfold sizeP at hsP;omega
  have hN2:P.e.shared.length≤262144:=by unfold sizeP at hsP;omega
  have hN4:P.threads.length≤262144:=by unfold sizeP at hsP;omega
  have HSP:=hid hsP
  have HSF:=hid hsF
  have HO:=hid (HOF.out w1 HK1.out.below)
  clear hsP hsF hfair
  go_wp2_with fail
  refine HO.out.mono ?_;rintro e w2 ⟨hb2,hq⟩
  have HK2:=hid (HK1.out.step hb2)
  clear hb2 q0 q1 q2 q3
  rcases hq with ⟨he0,rfl⟩|⟨he0,v,rfl,hown⟩
  · obtain⟨ee,hee⟩:∃ r,r=(effectT P).2:=⟨_,rfl⟩
    rw [← hee] at he0 ⊢
    have hq1:(ee != 0)=true:=bne_iff_ne.2 he0
    clear hee he0
    go_wp2_with fail
    refine (HAL.out _).mono ?_;rintro e w3 ⟨rfl,hb3⟩
    have HK3:=hid (HK2.out.step hb3)
    clear hb3
    go_wp2_with fail
    go_ret
    exact⟨rfl,HK3.out.below⟩
  have HEO:=hid (effOk_of he0)
  rw [effI_map] at hown
  obtain⟨lo,lc,rfl,hlc,hlc2,hrd⟩:=reads_own hown
  have HRD:=hid hrd
  clear hown hrd he0
  have HTW1:=hid (HTW.out w2 HK2.out.below HSP.out)
  obtain⟨N1,hn1⟩:∃ N,N=P.e.records.length:=⟨_,rfl⟩
  obtain⟨N2,hn2⟩:∃ N,N=P.e.shared.length:=⟨_,rfl⟩
  obtain⟨N3,hn3⟩:∃ N,N=P.e.funcs.length:=⟨_,rfl⟩
  obtain⟨N4,hn4⟩:∃ N,N=P.threads.length:=⟨_,rfl⟩
  rw [← hn1] at hN1
  rw [← hn2] at hN2
  simp only [← hn3] at hN3 hlc hlc2 HRD ⊢
  rw [← hn4] at hN4
  have HN:=hid (And.intro hn1 (And.intro hn2 (And.intro hn3 hn4)))
  clear hn1 hn2 hn3 hn4
  obtain⟨q0,q1,q2,q3⟩:=prog4 _ _ _ _ HK2.out.own
  go_wp2_with fail
  refine HTW1.out.mono ?_;intro e w3 hq
  obtain⟨Q1,rfl,hQ⟩:=hq
  obtain⟨ra,sa,fa,ta,hQ⟩:=hQ.quad
  have erv:=hQ.rv
  have esv:=hQ.sv
  have efv:=hQ.fv
  have etv:=hQ.tv
  rw [← HN.out.1] at erv
  rw [← HN.out.2.1] at esv
  rw [← HN.out.2.2.1] at efv
  rw [← HN.out.2.2.2] at etv
  rw [erv,esv,efv,etv]
  have HK3:=hid (KeepL.mk (HK2.out.step hQ.tw.below) hQ.tw.below)
  obtain⟨w5,hw5⟩:∃ u,u=w3.alloc (.cells #[.slice (some ⟨ra,0,none⟩) N1 (N1+2),.slice (some ⟨sa,0,none⟩) N2 (N2+2),.slice (some ⟨fa,0,none⟩) N3 (N3+2),.slice none 0 0] 27):=⟨_,rfl⟩
  have hO5:w5.heap[w3.heap.size]? = some (.cells #[.slice (some ⟨ra,0,none⟩) N1 (N1+2),.slice (some ⟨sa,0,none⟩) N2 (N2+2),.slice (some ⟨fa,0,none⟩) N3 (N3+2),.slice none 0 0] 27 (0,0)):=by rw [hw5];exact (MapKept.heap_alloc _ _).1
  have hb35:Below w3.heap.size w3 w5:=by rw [hw5];exact below_box w3 _
  have HK5:=hid (HK3.out.step hb35)
  have HLT3:=hid (And.intro (show w.heap.size+2≤w3.heap.size from HK3.out.m.lt) hQ.tw.below.size)
  have HBR1:=hid hQ.tw.bare
  have hI1:PIn w5 w5.heap.size ⟨Q1.e,.slice none 0 0,[]⟩:=by
    have h1:=(hQ.tw.new.here.keeps hb35).up hb35.size
    exact⟨h1.e,lies_nil _ _ _ _,fun a ha=>by cases ha⟩
  go_wp2_with fail
  rw [← hw5]
  have hof:Calls Tryz.prog 6 #[.agg #[Q1.e.rv,Q1.e.sv,Q1.e.fv,.slice none 0 0]] w5 (OfE ⟨Q1.e,.slice none 0 0,[]⟩ w5):=eff_of ⟨Q1.e,.slice none 0 0,[]⟩ w5.heap.size w5 (Nat.le_refl _) hI1 ⟨_,_,_,efv,by omega,by omega⟩
  rw [erv,esv,efv] at hof
  have HOQ:=hid hof
  have HO5:=hid hO5
  clear hw5 hO5 hb35 hI1 hof HTW1 HO hQ q0 q1 q2 q3
  obtain⟨q0,q1,q2,q3⟩:=prog4 _ _ _ _ HO5.out
  go_wp2_with fail
  refine HOQ.out.mono ?_;rintro e w6 ⟨hb6,hq⟩
  have hEO1:EffOk ⟨Q1.e,.slice none 0 0,[]⟩:=(HEO.out.alike HBR1.out).bareThreads _
  rcases hq with ⟨hne,-⟩|⟨-,v2,rfl,hown⟩
  · exact absurd (by rw [hEO1.eq]) hne
  rw [effI_map] at hown
  obtain⟨mo,mc,rfl,hmc,hmc2,hrd⟩:=reads_own hown
  have hlen:Q1.e.funcs.length=N3:=by rw [names_len HBR1.out,← HN.out.2.2.1]
  have hrd2:Reads w6 mo N3 (effI P):=by
    have h1:effI Q1=effI P:=effI_alike HBR1.out
    rw [show effI ⟨Q1.e,.slice none 0 0,[]⟩ = effI P from h1] at hrd
    rw [← hlen];exact hrd
  have HK6:=hid (HK5.out.step hb6)
  have HO6:=hid ((hb6.block _ (Array.getElem?_eq_some_iff.1 HO5.out).1).trans HO5.out)
  have HSM:=hid (same_eff lo mo N3 lc mc (effI P) w6 (by omega) (HRD.out.below HK6.out.l) hrd2)
  simp only [hlen]
  clear hb6 hown hrd hrd2 hlen hEO1 q0 q1 q2 q3 HOQ
  go_wp2_with fail
  refine HSM.out.mono ?_;rintro e w7 ⟨rfl,hb7⟩
  have HK7:=hid (HK6.out.step hb7)
  have HO7:=hid ((hb7.block _ (Array.getElem?_eq_some_iff.1 HO6.out).1).trans HO6.out)
  have HTW2:=hid (HTW.out w7 HK7.out.m.below HSP.out)
  obtain⟨q0,q1,q2,q3⟩:=prog4 _ _ _ _ HK7.out.m.own
  clear hb7 HSM erv esv efv etv hmc hmc2
  go_wp2_with fail
  refine HTW2.out.mono ?_;intro e w8 hq
  obtain⟨Q2,rfl,hQ⟩:=hq
  obtain⟨rb,sb,fb',tb,hQ⟩:=hQ.quad
  obtain⟨fb,R9,t1,t2,efv,hlen9,hf0,hf1,hrow,hlist,hl1,hl2,hbut⟩:=hQ.tw.fsplit
  have erv:=hQ.rv
  have esv:=hQ.sv
  have etv:=hQ.tv
  rw [← HN.out.1] at erv
  rw [← HN.out.2.1] at esv
  rw [← HN.out.2.2.1] at efv hlen9
  rw [← HN.out.2.2.2] at etv
  rw [erv,esv,efv,etv]
  have HK8:=hid (HK7.out.step hQ.tw.below)
  have HO8:=hid ((hQ.tw.below.block _ (Array.getElem?_eq_some_iff.1 HO7.out).1).trans HO7.out)
  have HBR2:=hid hQ.tw.bare
  have HF:=hid (And.intro (Array.getElem?_eq_some_iff.1 HO7.out).1 (And.intro hf0 hf1))
  have HROW:=hid (And.intro hrow (And.intro hlist (And.intro hl1 (And.intro hl2 hlen9))))
  have HBUT:=hid hbut
  clear hQ hf0 hf1 hrow hlist hl1 hl2 hlen9 hbut HTW2 q0 q1 q2 q3
  go_wp2_with (refine wpList_put rfl 27 (Operand.tmp 7) (Operand.tmp 45) rfl w3.heap.size 27 _ #[.slice (some ⟨rb,0,none⟩) N1 (N1+2),.slice (some ⟨sb,0,none⟩) N2 (N2+2),.slice (some ⟨fb,0,none⟩) N3 (N3+2),.slice (some ⟨tb,0,none⟩) N4 (N4+2)] rfl rfl HO8.out rfl (by kernel_rfl) (by simp [Value.oneCell']) ?_)
  intro w9 hp9
  have HP9:=hid hp9
  have HK9:=hid ((HK8.out.put hp9 HLT3.out.1 HLT3.out.2).drew)
  have HO9:=hid (show w9.drew.heap[w3.heap.size]? = _ from hp9.at_b)
  clear hp9
  go_wp2_with fail
  refine wp_region_late (S:=Sm w3.heap.size (w.heap.size+1) (.slice (some ⟨fb,0,none⟩) N3 (N3+2)) #[.string nm,pv,.int .u8 rk,.string rn,.int .i64 rz,bv]) (fun j=>decide (6≤j)) (by kernel_rfl) ⟨by rw [Lib.cell_of_heap HO9.out];rfl,HK9.out.m.fn⟩ (fun hSw=>?_)
  refine wpAnyL_take (i:=0) (v:=.pointer (some ⟨w3.heap.size,2,none⟩)) rfl (by kernel_rfl) (by kernel_rfl) (by kernel_rfl) rfl (by kernel_rfl) (fun _ _ _ h=>h) (Or.inl ⟨by rfl,fun W hW=>?_⟩) hSw ?_
  · first|(go_simp;done)|rfl
  try simp only [Act.put,q1]
  refine wpAnyL_take (i:=1) (v:=.slice (some ⟨fb,0,none⟩) N3 (N3+2)) rfl (by kernel_rfl) (by kernel_rfl) (by kernel_rfl) rfl (by kernel_rfl) (fun _ _ _ h=>h) (Or.inl ⟨by rfl,fun W hW=>?_⟩) hSw ?_
  · (have s0:=hW.cell;first|(go_simp;done)|rfl)
  try simp only [Act.put]
  refine wpAnyL_take (i:=2) (v:=.agg #[.string nm,pv,.int .u8 rk,.string rn,.int .i64 rz,bv]) rfl (by kernel_rfl) (by kernel_rfl) (by kernel_rfl) rfl (by kernel_rfl) (fun _ _ _ h=>h) (Or.inl ⟨by rfl,fun W hW=>?_⟩) hSw ?_
  · (obtain⟨q0,q1,q2,q3,q4,q5⟩:=own6M hW.fn;first|(go_simp;done)|rfl)
  try simp only [Act.put]
  have HTFr:=hid (HTF.out w9.drew HK9.out.m.below HSF.out)
  refine wpAnyL_ready (rs:=[3]) (by kernel_rfl) (by simp) (AllReadyL.cons rfl rfl (fun J hK=>?_) AllReadyL.nil)
  rw [if_pos (by rfl)]
  clear hSw
  go_simp
  refine HTFr.out.mono ?_;intro e w10 hq
  obtain⟨y,rfl,-,hb10,hyN⟩:=hq
  have HK10:=hid (HK9.out.step hb10)
  have HO10:=hid ((hb10.block _ (Array.getElem?_eq_some_iff.1 HO9.out).1).trans HO9.out)
  have HB10:=hid hb10
  have HYN:=hid hyN
  clear hb10 hyN
  refine hK.out _ _ (⟨by rw [Lib.cell_of_heap HO10.out];rfl,HK10.out.m.fn⟩) (fun hSw=>?_)
  clear hK J
  try simp only [Act.put,q1,q2,q3]
  have HB11:=hid (below_box w10 (.cells #[.string y.name,y.pv,.int .u8 y.res.k,.string y.res.n,.int .i64 y.res.z,y.bv] 33))
  have HK11:=hid (HK10.out.step HB11.out)
  have HO11:=hid ((HB11.out.block _ (Array.getElem?_eq_some_iff.1 HO10.out).1).trans HO10.out)
  have hs9:w9.drew.heap.size=w8.heap.size:=HP9.out.size
  obtain⟨hF3,hF0,hF1⟩:=HF.out
  have hrow9:w9.drew.heap[fb]? = some (.cells R9 33 (0,0)):=(HP9.out.rest fb (by omega)).trans HROW.out.1
  have hrow10:=(HB10.out.block _ (Array.getElem?_eq_some_iff.1 hrow9).1).trans hrow9
  obtain⟨w12,hrun,hLY,hgr⟩:=more_append y ((HB11.out.block _ (Array.getElem?_eq_some_iff.1 hrow10).1).trans hrow10) HROW.out.2.1 HROW.out.2.2.1 HROW.out.2.2.2.1 HROW.out.2.2.2.2 hN3 (MapKept.heap_alloc _ _).1 (fn_one HYN.out.here)
  have HRUN:=hid hrun
  have HLY:=hid hLY
  have HGR:=hid hgr
  have HK12:=hid (HK11.out.grown hgr (by have:=HLT3.out.1;omega) (by have:=HLT3.out.2;omega))
  have HO12:=hid ((hgr.block _ (Array.getElem?_eq_some_iff.1 HO11.out).1 (by intro e;cases e;omega)).trans HO11.out)
  clear hs9 hF3 hF0 hF1 hrow9 hrow10 hrun hLY hgr
  refine wpAnyL_ready (rs:=[4]) (by kernel_rfl) (by simp) (AllReadyL.cons rfl rfl (fun J hK=>?_) AllReadyL.nil)
  rw [if_pos (by rfl)]
  clear hSw
  go_simp

  refine hK.out _ _ (⟨by rw [Lib.cell_of_heap HO11.out];rfl,HK11.out.m.fn⟩) (fun hSw=>?_)
  clear hK J
  try simp only [Act.put,q1,q2,q3]
  refine wpAnyL_ready (rs:=[5]) (by kernel_rfl) (by simp) (AllReadyL.cons rfl rfl (fun J hK=>?_) AllReadyL.nil)
  rw [if_pos (by rfl)]
  clear hSw
  refine wp_append_run (v1:=.slice (some ⟨fb,0,none⟩) N3 (N3+2)) (v2:=.slice (some ⟨w10.heap.size,0,none⟩) 1 1) (.tmp 47) (.tmp 50) 24 rfl (by kernel_rfl) (by kernel_rfl) HRUN.out ?_
  refine hK.out _ _ (⟨by rw [Lib.cell_of_heap HO12.out];rfl,HK12.out.m.fn⟩) (fun hSw=>?_)
  clear hK J
  try simp only [Act.put,q1]
  obtain⟨g0,g1,g2,g3⟩:=prog4 _ _ _ _ HO12.out
  have f12:=Lib.frozen_of_heap HO12.out 2
  refine wpAnyL_only (rs:=[6]) (by kernel_rfl) (by simp) (by rfl) ?_
  refine wpAny_one (i:=6) (by kernel_rfl) rfl (fun J hK=>?_)
  rw [if_pos (by rfl)]
  go_simp
  refine hK.out _ _ ?_
  clear hK J
  try simp only [Act.put,q1,q2,q3]
  refine wpAny_one (i:=7) (by kernel_rfl) rfl (fun J hK=>?_)
  rw [if_pos (by rfl)]
  go_simp
  refine hK.out _ _ ?_
  clear hK J
  try simp only [Act.put,q1,q2,q3]
  refine wpAny_done (by kernel_rfl) ?_ _
  obtain⟨w13,hw13⟩:∃ u,u=w12.setCell ⟨w3.heap.size,2,none⟩ (.slice (some ⟨fb,0,none⟩) (N3+1) (N3+2)):=⟨_,rfl⟩
  rw [← hw13]
  have hp13:=put_cell (o:=2) (v:=.slice (some ⟨fb,0,none⟩) (N3+1) (N3+2)) HO12.out
  rw [← hw13] at hp13
  have HK13:=hid (HK12.out.put hp13 HLT3.out.1 HLT3.out.2)
  have hO13:w13.heap[w3.heap.size]? = some (.cells #[.slice (some ⟨rb,0,none⟩) N1 (N1+2),.slice (some ⟨sb,0,none⟩) N2 (N2+2),.slice (some ⟨fb,0,none⟩) (N3+1) (N3+2),.slice (some ⟨tb,0,none⟩) N4 (N4+2)] 27 (0,0)):=hp13.at_b
  have hPI:PIn w13 w13.heap.size ⟨moreE Q2.e (.slice (some ⟨fb,0,none⟩) (N3+1) (N3+2)) y,Q2.tv,Q2.threads⟩:=by
    obtain⟨hF3,hF0,hF1⟩:=HF.out
    have hs9:w9.drew.heap.size=w8.heap.size:=HP9.out.size
    have hs10:=HB10.out.size
    have hs11:=HB11.out.size
    have hs12:=HGR.out.size
    have hs13:w13.heap.size=w12.heap.size:=hp13.size
    refine more_in (HBUT.out w13 fun g h1 h2 h3=>?_) (by omega) ((HLY.out w13 (hp13.rest fb (by omega))).up (by omega)) ((HYN.out w13 fun g h1 h2=>?_).up (by omega))
    · exact (hp13.rest g (by omega)).trans ((HGR.out.block g (by omega) (by intro e;cases e;exact h3 rfl)).trans ((HB11.out.block g (by omega)).trans ((HB10.out.block g (by omega)).trans (HP9.out.rest g (by omega)))))
    · exact (hp13.rest g (by omega)).trans ((HGR.out.block g (by omega) (by intro e;cases e;omega)).trans (HB11.out.block g h2))
  obtain⟨R,hR⟩:∃ R:Pr,R=⟨moreE Q2.e (.slice (some ⟨fb,0,none⟩) (N3+1) (N3+2)) y,Q2.tv,Q2.threads⟩:=⟨_,rfl⟩
  have hcapR:CapF R:=by rw [hR];exact⟨_,_,_,rfl,by omega,by omega⟩
  have hag:(.agg #[R.e.rv,R.e.sv,R.e.fv,R.tv]:Value) = .agg #[.slice (some ⟨rb,0,none⟩) N1 (N1+2),.slice (some ⟨sb,0,none⟩) N2 (N2+2),.slice (some ⟨fb,0,none⟩) (N3+1) (N3+2),.slice (some ⟨tb,0,none⟩) N4 (N4+2)]:=by
    rw [hR]
    show (.agg #[Q2.e.rv,Q2.e.sv,_,Q2.tv]:Value)=_
    rw [erv,esv,etv]
    rfl
  have hRE:EffOk R→(effI R).take N3=effI P:=fun hR2=>by
    have h2:EffOk Q2:=HEO.out.alike HBR2.out
    have h3:Q2.e.funcs.length=N3:=HROW.out.2.2.2.2
    rw [hR,← h3,effI_more h2,effI_alike HBR2.out]
  have hRL:R.e.funcs.length=N3+1:=by
    rw [hR]
    show (Q2.e.funcs ++ [y]).length=_
    rw [List.length_append,HROW.out.2.2.2.2];rfl
  rw [← hR] at hPI
  have hCK:=fun (u:World) (hu:Below w13.heap.size w13 u)=>types_check_any R w13.heap.size u hu.size (hPI.keeps hu)
  have hEC:=fun (u:World) (hu:Below w13.heap.size w13 u)=>eff_check R w13.heap.size u hu.size (hPI.keeps hu) hcapR
  have hOR:=fun (u:World) (hu:Below w13.heap.size w13 u)=>eff_of R w13.heap.size u hu.size (hPI.keeps hu) hcapR
  simp only [hag] at hCK hEC hOR
  have HCK:=hid hCK
  have HEC:=hid hEC
  have HOR:=hid hOR
  have HRE:=hid hRE
  have HRL:=hid hRL
  have HO13:=hid hO13
  clear hw13 hp13 hO13 hPI hcapR hag hRE hRL hCK hEC hOR HRUN HLY HGR HYN HB10 HB11 HK9 HK10 HK11 HK12 HO9 HO10 HO11 HO12 HP9 HBUT HROW HF g0 g1 g2 g3 f12 hR HTFr erv esv efv etv
  obtain⟨q0,q1,q2,q3⟩:=prog4 _ _ _ _ HO13.out
  have HC13:=hid (HCK.out w13 (Below.refl _ _))
  go_wp2_with fail
  refine HC13.out.mono ?_;rintro e w14 ⟨rfl,hb14⟩
  have HK14:=hid (HK13.out.step hb14)
  have HO14:=hid ((hb14.block _ (Array.getElem?_eq_some_iff.1 HO13.out).1).trans HO13.out)
  have HC14:=hid (HEC.out w14 hb14)
  have HB14:=hid hb14
  clear hb14 q0 q1 q2 q3
  obtain⟨q0,q1,q2,q3⟩:=prog4 _ _ _ _ HO14.out
  go_wp2_with fail
  refine HC14.out.mono ?_;rintro e w15 ⟨rfl,hb15⟩
  have HK15:=hid (HK14.out.step hb15)
  have HO15:=hid ((hb15.block _ (Array.getElem?_eq_some_iff.1 HO14.out).1).trans HO14.out)
  have HB15:=hid (HB14.out.trans (hb15.mono HB14.out.size))
  clear hb15 q0 q1 q2 q3
  obtain⟨q0,q1,q2,q3⟩:=prog4 _ _ _ _ HO15.out
  have HOr:=hid (HOR.out w15 HB15.out)
  obtain⟨tp,htp⟩:∃ r,r=(typesT R).1:=⟨_,rfl⟩
  obtain⟨te,hte⟩:∃ r,r=(typesT R).2:=⟨_,rfl⟩
  obtain⟨ep,hep⟩:∃ r,r=(effectT R).1:=⟨_,rfl⟩
  obtain⟨ee,hee⟩:∃ r,r=(effectT R).2:=⟨_,rfl⟩
  rw [← htp,← hte,← hep,← hee]
  clear htp hep
  by_cases h1:te=0
  case' neg =>
    have hq1:(te != 0)=true:=bne_iff_ne.2 h1
    clear h1 hte hee
    go_wp2_with fail
    refine (HAL.out _).mono ?_;rintro e w16 ⟨rfl,hb16⟩
    have HK16:=hid (HK15.out.step hb16)
    clear hb16
    go_wp2_with fail
    go_ret
    exact⟨rfl,HK16.out.m.below⟩
  subst h1
  clear hte
  by_cases h2:ee=0
  case' neg =>
    have hq2:(ee != 0)=true:=bne_iff_ne.2 h2
    clear h2 hee
    go_wp2_with fail
    refine (HAL.out _).mono ?_;rintro e w16 ⟨rfl,hb16⟩
    have HK16:=hid (HK15.out.step hb16)
    clear hb16
    go_wp2_with fail
    go_ret
    exact⟨rfl,HK16.out.m.below⟩
  subst h2
  have HE0:=hid hee.symm
  clear hee
  go_wp2_with fail
  refine HOr.out.mono ?_;rintro e w16 ⟨hb16,hq⟩
  rcases hq with ⟨hne,-⟩|⟨-,v3,rfl,hown⟩
  · exact absurd HE0.out hne
  rw [effI_map,HRL.out] at hown
  obtain⟨no,nc,rfl,hnc,hnc2,hrd⟩:=reads_own hown
  have HK16:=hid (HK15.out.step hb16)
  have hrd2:Reads w16 no N3 (effI P):=by
    have h3:=hrd.less (show N3≤N3+1 by omega)
    rwa [HRE.out (effOk_of HE0.out)] at h3
  have HSM:=hid (fun (c:Nat)=>same_eff lo no N3 lc c (effI P) w16 (by omega) (HRD.out.below HK16.out.l) hrd2)
  clear hb16 hown hrd hrd2 q0 q1 q2 q3
  go_wp2_with fail
  refine (HSM.out _).mono ?_;rintro e w17 ⟨rfl,hb17⟩
  have HK17:=hid (HK16.out.step hb17)
  clear hb17
  go_wp2_with fail
  refine (HAL.out _).mono ?_;rintro e w18 ⟨rfl,hb18⟩
  have HK18:=hid (HK17.out.step hb18)
  clear hb18
  go_wp2_with fail
  go_ret
  exact⟨rfl,HK18.out.m.below⟩
end Go.Proofs.YtdhieihcmnpneaaGreatDoor
