import Derived.Test.YtlboinokdhmacaaGreatDoorRlCheck
import Derived.Test.YtlboinokdhmacaaGreatDoorLfTwin
namespace Go.Proofs.YtlboinokdhmacaaGreatDoor
set_option maxHeartbeats 64000000
set_option maxRecDepth 1000000
open Lib(hid)
section
open Go.RowKit
theorem QT.other {ow ow':Nat→Nat} {w w':World} {tb i j:Nat} {T:RT} {rs ws os:Value} (h:QT ow w tb (i*6) i T rs ws os) (hij:i≠j) (hb:But ow [1,2,3,4,5,6,10+8*j,11+8*j,12+8*j] w w') (he:Ext ow ow' w) (hk:TbK tb (j*6) w w'):QT ow' w' tb (i*6) i T rs ws os:=by
 obtain⟨cur,hc,r0,r1,r2,r3,r4,r5⟩:=h.row;obtain⟨c1,c2,h1,h2,h3,h4⟩:=hk;rw[hc]at h1;cases h1;have hq:∀ q,q<6→c2[i*6+q]? = cur[i*6+q]?:=fun q hq=>h4 _ (by omega)
 exact⟨⟨c2,h2,(hq 0 (by omega)).trans r0,(hq 1 (by omega)).trans r1,(hq 2 (by omega)).trans r2,(hq 3 (by omega)).trans r3,(hq 4 (by omega)).trans r4,(hq 5 (by omega)).trans r5⟩,(he tb (z8 hc)).trans h.lab,
  vU h.regs hb he (by simp;omega),h.wait.keeps hb he (by simp;omega),h.out.keeps hb he (by simp;omega)⟩
structure GrAt (w:World) (B:Nat) (gs:List Gr) (tv:Value) (gt goff gc:Nat):Prop where
 etv:tv = .slice (some ⟨gt,goff,none⟩) gs.length gc
 gtB:gt<B
 cells:∀ j g,gs[j]? = some g→w.cell? ⟨gt,goff+j*3,none⟩ = some g.rv∧w.cell? ⟨gt,goff+j*3+1,none⟩ = some (.int .i64 g.sites)∧w.cell? ⟨gt,goff+j*3+2,none⟩ = some g.bv∧GIn w B g
 ok:∀ g ∈ gs,GOk g∧∀ bk ∈ g.blocks,1≤bk.last∧bk.last≤3
structure ve (ow:Nat→Nat) (w0 w:World) (B b:Nat) (wd:Int) (tv tw:Value) (tb:Nat) (gs:List Gr) (tc:Nat) (s:QS) (v:Value):Prop where
 qw:QW ow w b wd tv tw s.W (s.n:Int) v
 etw:∃ tq,tw = .slice tq gs.length tc∧(0<gs.length→tq=some ⟨tb,0,none⟩)
 len:s.T.length=gs.length
 each:∀ (i:Nat) T,s.T[i]? = some T→∃ rs ws os,QT ow w tb (i*6) i T rs ws os
 ok:∀ (i:Nat) T g,s.T[i]? = some T→gs[i]? = some g→T.fin=0→ROk g T
 bound:∀ T ∈ s.T,T.out.length+T.wait.length+s.n≤1048576
 bel:Below B w0 w
 base:B≤w0.heap.size
 low:∀ k,k<B→ow k=0
 new:∀ k,w.heap.size≤k→ow k=0
 clean:∀ k,ow k≠4∧ow k≠5∧ow k≠6
def PickE (ow:Nat→Nat) (w0:World) (B b:Nat) (wd:Int) (tv tw:Value) (tb:Nat) (gs:List Gr) (tc:Nat) (s:QS) (j:Nat) (r:Nat × WS × RT × Bool) (w:World) (e:Ending) (w':World):Prop:=
 e = .returned (.bool r.2.2.2)∧(r.2.2.2=true→∃ ow' v',Ext ow ow' w∧ve ow' w0 w' B b wd tv tw tb gs tc ⟨r.1,r.2.1,s.T.set j r.2.2.1⟩ v') ∧
  (r.2.2.2=false→But ow [1,2,3,4,5,6,10+8*j] w w'∧∃ ow' v' n',QW ow' w' b wd tv tw r.2.1 n' v')
theorem ve.leap {ow:Nat→Nat} {w0 w:World} {B b:Nat} {wd:Int} {tv tw:Value} {tb:Nat} {gs:List Gr} {tc gt goff gc:Nat} {s:QS} {v:Value} (h:ve ow w0 w B b wd tv tw tb gs tc s v) (hG:GrAt w0 B gs tv gt goff gc) {j:Nat} {T:RT} {g:Gr} (hT:s.T[j]? = some T) (hg:gs[j]? = some g) (hf:T.fin=0) :
 Calls Tryz.prog 27 #[.pointer (some ⟨b,0,none⟩),.int .i64 (j:Int)] w (PickE ow w0 B b wd tv tw tb gs tc s j (yG g s.n s.W T) w):=by
 obtain⟨rs,ws,os,hqt⟩:=h.each j T hT;obtain⟨g0,g1,g2,hgi⟩:=hG.cells j g hg;obtain⟨hGO,hkd⟩:=hG.ok g (List.mem_of_getElem? hg);have hb:=h.bound T (List.mem_of_getElem? hT);have hjT:j<gs.length:=(List.getElem?_eq_some_iff.1 hg).1;have hgt:∀ o,(⟨gt,o,none⟩:Addr).block<B:=fun _=>hG.gtB
 have hetw:tw = .slice (some ⟨tb,0,none⟩) gs.length tc:=by
  obtain⟨tq,e,h0⟩:=h.etw;rw[e,h0 (by omega)]
 have hin:kK ow w B b wd tv tw tb j rs ws os s.n s.W T v g gs.length tc gt goff gs.length gc:=
  ⟨h.qw,hqt,hetw,hjT,hG.etv,hjT,hG.gtB,(h.bel.cell hG.gtB).trans g0,(h.bel.cell hG.gtB).trans g1,(h.bel.cell hG.gtB).trans g2,hgi.keeps h.bel,Nat.le_trans h.base h.bel.size,h.low,h.new,by omega,by omega,h.clean⟩
 have hok:=h.ok j T g hT hg hf;have hlk:=Ya hGO s.n s.W T hok;refine (Vk hin hGO hkd hok (by omega)).mono fun e w' hq=>?_
 generalize yG g s.n s.W T=r at hq hlk;obtain⟨he,ow',v',ws',os',n',hn,hx,q1,q2,q3,q4,q5,hnew,hcl⟩:=hq;have hwB:B≤w.heap.size:=Nat.le_trans h.base h.bel.size;have hbel:Below B w w':=⟨q3.os,q3.tape,q3.output,q3.size,fun k hk=>q3.block k (Nat.lt_of_lt_of_le hk hwB) (by rw[h.low k hk];simp;omega)⟩
 refine⟨he,fun ht=>⟨ow',v',hx, ?_⟩,fun hfl=>⟨q5 hfl,ow',v',n',q1⟩⟩;obtain⟨l1,l2⟩:=hlk;obtain⟨l3,l4,l5⟩:=l2 ht;have hjs:j<s.T.length:=by rw[h.len];exact hjT
 refine⟨by rw[←hn ht];exact q1,h.etw,by simpa using h.len,fun i T' hi=>?_,fun i T' g' hi hg' hf'=>?_,fun T' hT'=>?_,h.bel.trans hbel,h.base,fun k hk=>(hx k (Nat.lt_of_lt_of_le hk hwB)).trans (h.low k hk),hnew,hcl⟩
 · simp only[List.getElem?_set]at hi
   by_cases hij:j=i
   · subst hij
     simp[hjs]at hi;subst hi;exact⟨rs,ws',os',q2⟩
   · rw[if_neg hij]at hi
     obtain⟨rs1,ws1,os1,hq1⟩:=h.each i T' hi;exact⟨rs1,ws1,os1,hq1.other (fun e=>hij e.symm) q3 hx q4⟩
 · simp only[List.getElem?_set]at hi
   by_cases hij:j=i
   · subst hij
     simp[hjs]at hi;subst hi;rw[hg]at hg';cases hg';exact l5 hf'
   · rw[if_neg hij]at hi
     exact h.ok i T' g' hi hg' hf'
 · show T'.out.length+T'.wait.length+r.1≤1048576
   rcases List.mem_or_eq_of_mem_set hT' with hm|rfl
   · have:=h.bound T' hm;omega
   · omega
theorem qP:∀ (L:List (Value × Int)) (i:Nat) (x:Value × Int),L[i]? = some x→(yg L)[i*2]? = some x.1∧(yg L)[i*2+1]? = some (.int .u8 x.2):=by
 intro L;induction L with
 | nil=>intro i x h;simp at h
 | cons y L ih =>
  intro i x h;have e:yg (y :: L)=y.1 :: .int .u8 y.2 :: yg L:=rfl;rw[e];cases i with
  | zero=>simp at h;subst h;exact⟨rfl,rfl⟩
  | succ i =>
   obtain⟨a,b⟩:=ih i x (by simpa using h);rw[show (i+1)*2=i*2+1+1 by omega];exact⟨by simpa using a,by simpa using b⟩
def wh (ow:Nat→Nat) (w:World) (sv:Value) (Ts:List RT) (N:Nat):Prop:=
 ∃ L:List (Value × Int),w.ownsRow 0 108 2 sv N (yg L)∧(∀ k,sv.ownBlock=some k→ow k=0)∧∀ (i:Nat) T,Ts[i]? = some T→∃ x,L[i]? = some x∧x.2=T.fin∧zI ow w (12+8*i) x.1 T.out
theorem wh.keeps {ow:Nat→Nat} {w w':World} {sv:Value} {Ts:List RT} {N:Nat} {ls:List Nat} (h:wh ow w sv Ts N) (hb:But ow ls w w') (h0:0 ∉ ls) (h1:∀ i,12+8*i ∉ ls):wh ow w' sv Ts N:=by
 obtain⟨L,a,b,c⟩:=h;refine⟨L,zM a hb b h0,b,fun i T hT=>?_⟩;obtain⟨x,x1,x2,x3⟩:=c i T hT;exact⟨x,x1,x2,x3.keeps hb (.refl _ _) (h1 i)⟩
theorem wh.at {ow:Nat→Nat} {w:World} {sv:Value} {Ts:List RT} {N:Nat} (h:wh ow w sv Ts N) (hl:Ts.length=N) (Us:List TS) (hU:Us.length=N) (hs:∀ (i:Nat) T R,Us[i]? = some T→Ts[i]? = some R→T.told=R.out∧T.fin=R.fin):xB w sv Us:=by
 obtain⟨L,a,b,c⟩:=h;refine⟨0,yg L,by rw[hU];exact a,fun i T hT=>?_⟩;have hi:=(List.getElem?_eq_some_iff.1 hT).1;obtain⟨R,hR⟩:∃ R,Ts[i]? = some R:=⟨_,List.getElem?_eq_getElem (by omega)⟩
 obtain⟨x,x1,x2,x3⟩:=c i R hR;obtain⟨s1,s2⟩:=hs i T R hT hR;obtain⟨y1,y2⟩:=qP L i x x1;refine⟨x.1,y1,by rw[y2,x2,s2], ?_⟩;rw[s1];rcases x3 with e|⟨g,off,cap,cur,h1,h2,h3,h4⟩
 · exact .inl e
 · exact .inr ⟨g,off,cap,cur,h1,h2,rfl,h4⟩
theorem ve.below {ow:Nat→Nat} {w0 w w':World} {B b:Nat} {wd:Int} {tv tw:Value} {tb:Nat} {gs:List Gr} {tc:Nat} {s:QS} {v:Value} (h:ve ow w0 w B b wd tv tw tb gs tc s v) (hb:Below w.heap.size w w'):ve ow w0 w' B b wd tv tw tb gs tc s v:=by
 have hB:But ow ([]:List Nat) w w':=But.of hb;refine⟨h.qw.keeps hB (.refl _ _) (by simp) (by simp),h.etw,h.len,fun i T hT=>?_,h.ok,h.bound,h.bel.trans (hb.mono (Nat.le_trans h.base h.bel.size)),h.base,h.low,fun k hk=>h.new k (Nat.le_trans hb.size hk),h.clean⟩;obtain⟨rs,ws,os,hq⟩:=h.each i T hT;exact⟨rs,ws,os,hq.keeps hB (.refl _ _) (by simp) (by simp) (by simp) (by simp)⟩
theorem ve.seenL {ow:Nat→Nat} {w0 w:World} {B b:Nat} {wd:Int} {tv tw:Value} {tb:Nat} {gs:List Gr} {tc:Nat} {s:QS} {v:Value} (h:ve ow w0 w B b wd tv tw tb gs tc s v):∃ L:List (Value × Int),L.length=gs.length ∧
 (∀ i x,L[i]? = some x→(∃ q l c,x.1 = .slice q l c)∧w.cell? ⟨tb,i*6+4,none⟩ = some x.1∧w.cell? ⟨tb,i*6+5,none⟩ = some (.int .u8 x.2))∧∀ (i:Nat) T,s.T[i]? = some T→∃ x,L[i]? = some x∧x.2=T.fin∧zI ow w (12+8*i) x.1 T.out:=by
 refine⟨s.T.mapIdx fun i T=>((w.cell? ⟨tb,i*6+4,none⟩).getD undef,T.fin),by simpa using h.len,fun i x hx=>?_,fun i T hT=>?_⟩
 · rw[List.getElem?_mapIdx]at hx
   obtain⟨T,hT,rfl⟩:=Option.map_eq_some_iff.1 hx;obtain⟨rs,ws,os,hq⟩:=h.each i T hT;obtain⟨-,-,-,-,-,d4,d5⟩:=hq.cells;obtain⟨q,c,e⟩:=hq.out.form';rw[d4];exact⟨⟨q,_,c,e⟩,rfl,d5⟩
 · obtain⟨rs,ws,os,hq⟩:=h.each i T hT
   obtain⟨-,-,-,-,-,d4,d5⟩:=hq.cells;refine⟨(os,T.fin), ?_,rfl,hq.out⟩;rw[List.getElem?_mapIdx,hT,Option.map_some,d4]
   rfl
theorem ve.seen {ow:Nat→Nat} {w0 w:World} {B b:Nat} {wd:Int} {tv tw:Value} {tb:Nat} {gs:List Gr} {tc:Nat} {s:QS} {v:Value} (h:ve ow w0 w B b wd tv tw tb gs tc s v) (hg:gs.length≤1000) :
 Calls Tryz.prog 26 #[.pointer (some ⟨b,0,none⟩)] w fun e w'=>∃ sv,e = .returned sv∧Below w.heap.size w w'∧wh ow w' sv s.T gs.length:=by
 obtain⟨L,l1,l2,l3⟩:=h.seenL;have hbox:=h.qw.box;obtain⟨tq,etw,htq⟩:=h.etw;rw[etw]at hbox;refine (Vf hbox (fun h0=>⟨htq h0, ?_⟩) hg l1 l2).mono fun e w' hq=>?_
 · obtain⟨T,hT⟩:∃ T,s.T[0]? = some T:=⟨_,List.getElem?_eq_getElem (by rw[h.len];exact h0)⟩
   obtain⟨rs,ws,os,hq⟩:=h.each 0 T hT;exact hq.cells.1
 · obtain⟨sv,rfl,hb,hown⟩:=hq
   refine⟨sv,rfl,hb,L,⟨hown.1,hown.2.imp_right fun ⟨g,cap,cur,e,_,r⟩=>⟨g,cap,cur,e,Nat.zero_le _,r⟩⟩,fun k hk=>h.new k (hown.lt k hk).1,fun i T hT=>?_⟩;obtain⟨x,x1,x2,x3⟩:=l3 i T hT;exact⟨x,x1,x2,x3.keeps (But.of (ls:=[]) hb) (.refl _ _) (by simp)⟩
structure Zq (ow:Nat→Nat) (a b:World):Prop where
 os:b.os=a.os
 tape:b.tape=a.tape
 output:b.output=a.output
 size:a.heap.size≤b.heap.size
 block:∀ k,k<a.heap.size→ow k=0→b.heap[k]? = a.heap[k]?
theorem Zq.refl (ow:Nat→Nat) (a:World):Zq ow a a:=⟨rfl,rfl,rfl,Nat.le_refl _,fun _ _ _=>rfl⟩
theorem Zq.of {ow:Nat→Nat} {ls:List Nat} {a b:World} (h:But ow ls a b) (h0:0 ∉ ls):Zq ow a b:=⟨h.os,h.tape,h.output,h.size,fun k hk e=>h.block k hk (by rw[e];exact h0)⟩
theorem Zq.ofb {ow:Nat→Nat} {a b:World} (h:Below a.heap.size a b):Zq ow a b:=⟨h.os,h.tape,h.output,h.size,fun k hk _=>h.block k hk⟩
theorem Zq.trans {ow ow':Nat→Nat} {a b c:World} (h:Zq ow a b) (he:Ext ow ow' a) (k:Zq ow' b c):Zq ow a c:=
 ⟨k.os.trans h.os,k.tape.trans h.tape,k.output.trans h.output,Nat.le_trans h.size k.size,fun x hx e=>(k.block x (Nat.lt_of_lt_of_le hx h.size) (by rw[he x hx];exact e)).trans (h.block x hx e)⟩
theorem Zq.low {ow:Nat→Nat} {L:Nat} {a b:World} (h:Zq ow a b) (hL:L≤a.heap.size) (h0:∀ k,k<L→ow k=0):Below L a b:=⟨h.os,h.tape,h.output,h.size,fun k hk=>h.block k (Nat.lt_of_lt_of_le hk hL) (h0 k hk)⟩
theorem Ext.to {ow ow' ow2:Nat→Nat} {a b:World} (h:Ext ow ow' a) (k:Ext ow' ow2 b) (hs:a.heap.size≤b.heap.size):Ext ow ow2 a:=fun x hx=>(k x (Nat.lt_of_lt_of_le hx hs)).trans (h x hx)
theorem kZ {ow:Nat→Nat} {w:World} {lab:Nat} {v:Value} {n:Nat} {xs news:List Value} {E T ty:TypeId} {i:TypeInfo} {z:Value} {size bytes:Nat} (ht:Tryz.prog.underlying T=some (.slice E)) (hi:Tryz.prog.info? E=some i) (hz:i.zero=some z)
 (hsize:i.size=size) (hby:i.bytes=bytes) (hzs:z.cells.size=size) (hsz:0<size) (h:w.ownsRow 0 E size v n xs) (hl:∀ k,v.ownBlock=some k→ow k=lab)
 (ad:Addr) (c:Nat) (hnl:news.length=size) (hnews:∀ j u,news[j]? = some u→w.cell? (ad.add j)=some u) (h1:∀ u ∈ news,u.oneCell'=true) (hn:n≤1048576) (hb:bytes≤4096) :
 ∃ gq cap w8,(Builtin.append_ #[T,T] ty #[v,.slice (some ad) 1 c]).run Tryz.prog w = .ok (.slice (some ⟨gq,0,none⟩) (n+1) cap) w8∧w8.ownsRow 0 E size (.slice (some ⟨gq,0,none⟩) (n+1) cap) (n+1) (xs++news) ∧
  ∃ ow',Ext ow ow' w∧ow' gq=lab∧But ow [lab] w w8:=by
 have hbn:(n+1)*bytes≤140737488355328:=Nat.le_trans (Nat.mul_le_mul (show n+1≤1048577 by omega) hb) (by decide);obtain⟨gq,cap,w8,hr,hown,hg,hat,-⟩:=run_append_lies (P:=Tryz.prog) w T ty 0 E i z size bytes ht hi hz hsize hby hzs hsz v n xs h ad 1 c news (by omega) hnews h1 (by omega) (by unfold maxLen;omega) hbn (by omega) w.heap.size rfl;refine⟨gq,cap,w8,hr,hown,fun k=>if k<w.heap.size then ow k else lab,fun k hk=>by simp[hk], ?_,hg.os,hg.tape,hg.output,hg.size,fun k hk hn=>hg.block k hk fun q=>hn (by rw[hl k q.symm];simp)⟩;rcases hat with e|e
 · simp only
   split
   · exact hl gq e
   · rfl
 · subst e
   simp
def kG (cnt:Int) (vW vS:Value):Array Value:=
 #[.int .i64 cnt,.slice none 0 0,.slice none 0 0,vW,.slice none 0 0,.slice none 0 0,.slice none 0 0,.slice none 0 0,.slice none 0 0,.slice none 0 0,.slice none 0 0,.slice none 0 0,.slice none 0 0,.slice none 0 0,.slice none 0 0,vS,
  .slice none 0 0,.slice none 0 0,.slice none 0 0,.slice none 0 0,.slice none 0 0,.slice none 0 0,.slice none 0 0,.slice none 0 0,.slice none 0 0,.slice none 0 0,.slice none 0 0,.slice none 0 0]
def wE (x:Value × Nat):List Value:=[x.1,.int .i64 (x.2:Int)]
theorem Yq:∀ (l:List (Value × Nat)) (i:Nat) (x:Value × Nat),l[i]? = some x→(l.flatMap wE)[i*2]? = some x.1∧(l.flatMap wE)[i*2+1]? = some (.int .i64 (x.2:Int)):=by
 intro l;induction l with
 | nil=>intro i x h;simp at h
 | cons y l ih =>
  intro i x h;have e:(y :: l).flatMap wE=y.1 :: .int .i64 (y.2:Int) :: l.flatMap wE:=rfl;rw[e];cases i with
  | zero=>simp at h;subst h;exact⟨rfl,rfl⟩
  | succ i =>
   obtain⟨a,b⟩:=ih i x (by simpa using h);rw[show (i+1)*2=i*2+1+1 by omega];exact⟨by simpa using a,by simpa using b⟩
theorem Yp:∀ (l:List (Value × Nat)) (i:Nat) (x:Value × Nat) (u:Value),l[i]? = some x→(l.flatMap wE).set (i*2) u=(l.set i (u,x.2)).flatMap wE:=by
 intro l;induction l with
 | nil=>intro i x u h;simp at h
 | cons y l ih =>
  intro i x u h;have e:(y :: l).flatMap wE=y.1 :: .int .i64 (y.2:Int) :: l.flatMap wE:=rfl;rw[e];cases i with
  | zero=>simp at h;subst h;rfl
  | succ i =>
   have:=ih i x u (by simpa using h);rw[show (i+1)*2=i*2+1+1 by omega,List.set_cons_succ,List.set_cons_succ,this]
   rfl
def cU {α:Type} (c:Nat→α) (i:Nat) (l:α):Nat→α:=fun j=>if j=i then l else c j
theorem vC {α:Type} (c:Nat→α) (i:Nat) (l:α):cU c i l i=l:=if_pos rfl
theorem qo {α:Type} (c:Nat→α) {i j:Nat} (l:α) (h:j≠i):cU c i l j=c j:=if_neg h
theorem z1n {α:Type} (c:Nat→α) (i:Nat):cU c i (c i)=c:=by
 funext j;unfold cU;split
 · rename_i h;rw[h]
 · rfl
theorem cU_cU {α:Type} (c:Nat→α) (i:Nat) (a b:α):cU (cU c i a) i b=cU c i b:=by
 funext j;unfold cU;split <;> rfl
structure BQ (ow:Nat→Nat) (w:World) (K:Nat) (cnt:Nat) (vW vS:Value) (hW:List (Value × Nat)) (c:Nat→List Int) (hS:List (Value × Nat)) (d:Nat→List (Value × Int)):Prop where
 box:w.heap[K]? = some (.cells (kG (cnt:Int) vW vS) 65 (0,0))
 lab:ow K=1
 rowW:w.ownsRow 0 133 2 vW hW.length (hW.flatMap wE)
 labW:∀ k,vW.ownBlock=some k→ow k=2
 rowS:w.ownsRow 0 135 2 vS hS.length (hS.flatMap wE)
 labS:∀ k,vS.ownBlock=some k→ow k=3
 wide:∀ (i:Nat) x,hW[i]? = some x→zI ow w (10+2*i) x.1 (c i)
 seen:∀ (i:Nat) x,hS[i]? = some x→w.ownsRow 0 108 2 x.1 (d i).length (yg (d i))∧∀ k,x.1.ownBlock=some k→ow k=11+2*i
theorem BQ.keeps {ow ow':Nat→Nat} {w w':World} {K cnt:Nat} {vW vS:Value} {hW hS:List (Value × Nat)} {c:Nat→List Int} {d:Nat→List (Value × Int)} {ls:List Nat} (h:BQ ow w K cnt vW vS hW c hS d) (hb:But ow ls w w') (he:Ext ow ow' w) (h1:1 ∉ ls) (h2:2 ∉ ls) (h3:3 ∉ ls) (h4:∀ i,10+2*i ∉ ls) (h5:∀ i,11+2*i ∉ ls):BQ ow' w' K cnt vW vS hW c hS d:=
 ⟨(hb.block K (z8 h.box) (by rw[h.lab];exact h1)).trans h.box,by rw[he K (z8 h.box)];exact h.lab,zM h.rowW hb h.labW h2,yA h.rowW he h.labW,zM h.rowS hb h.labS h3,yA h.rowS he h.labS,
  fun i x hx=>(h.wide i x hx).keeps hb he (h4 i),fun i x hx=>⟨zM (h.seen i x hx).1 hb (h.seen i x hx).2 (h5 i),yA (h.seen i x hx).1 he (h.seen i x hx).2⟩⟩
theorem BQ.below {ow:Nat→Nat} {w w':World} {K cnt:Nat} {vW vS:Value} {hW hS:List (Value × Nat)} {c:Nat→List Int} {d:Nat→List (Value × Int)} (h:BQ ow w K cnt vW vS hW c hS d) (hb:Below w.heap.size w w'):BQ ow w' K cnt vW vS hW c hS d:=
 h.keeps (But.of (ls:=[]) hb) (.refl _ _) (by simp) (by simp) (by simp) (by simp) (by simp)
theorem wG {w:World} {E:TypeId} {size:Nat} {v:Value} {n:Nat} {xs:List Value} (h:w.ownsRow 0 E size v n xs):∃ q cp,v = .slice q n cp∧(0<n→∃ g,q=some ⟨g,0,none⟩ ∧ g<w.heap.size):=by
 rcases h.2 with ⟨e,e0⟩|⟨g,cap,cur,e,-,hg,-⟩
 · exact⟨none,0,by rw[e,e0],fun h0=>by omega⟩
 · exact⟨_,cap,e,fun _=>⟨g,rfl,z8 hg⟩⟩
theorem BQ.atW {ow:Nat→Nat} {w:World} {K cnt:Nat} {q:Option Addr} {n cp:Nat} {vS:Value} {hW hS:List (Value × Nat)} {c:Nat→List Int} {d:Nat→List (Value × Int)} (h:BQ ow w K cnt (.slice q n cp) vS hW c hS d) {i:Nat} {x:Value × Nat} (hx:hW[i]? = some x) :
 ∃ g,q=some ⟨g,0,none⟩ ∧ g<w.heap.size∧ow g=2∧w.cell? ⟨g,i*2,none⟩ = some x.1∧w.cell? ⟨g,i*2+1,none⟩ = some (.int .i64 (x.2:Int))∧w.frozen? ⟨g,i*2,none⟩ = false:=by
 have hr:=h.rowW;have hi:=(List.getElem?_eq_some_iff.1 hx).1;obtain⟨e1,e2⟩:=Yq hW i x hx;have hl:=h.labW;rcases hr.2 with ⟨e,e0⟩|⟨g,cap,cur,e,-,hg,-⟩
 · omega
 · cases e
   refine⟨g,rfl,z8 hg,hl g rfl,(hr.cellAt (i*2) (by omega)).trans e1,(hr.cellAt (i*2+1) (by omega)).trans e2,Lib.frozen_of_heap hg _⟩
theorem BQ.atS {ow:Nat→Nat} {w:World} {K cnt:Nat} {q:Option Addr} {n cp:Nat} {vW:Value} {hW hS:List (Value × Nat)} {c:Nat→List Int} {d:Nat→List (Value × Int)} (h:BQ ow w K cnt vW (.slice q n cp) hW c hS d) {i:Nat} {x:Value × Nat} (hx:hS[i]? = some x) :
 ∃ g,q=some ⟨g,0,none⟩ ∧ g<w.heap.size∧ow g=3∧w.cell? ⟨g,i*2,none⟩ = some x.1∧w.cell? ⟨g,i*2+1,none⟩ = some (.int .i64 (x.2:Int))∧w.frozen? ⟨g,i*2,none⟩ = false:=by
 have hr:=h.rowS;have hi:=(List.getElem?_eq_some_iff.1 hx).1;obtain⟨e1,e2⟩:=Yq hS i x hx;have hl:=h.labS;rcases hr.2 with ⟨e,e0⟩|⟨g,cap,cur,e,-,hg,-⟩
 · omega
 · cases e
   refine⟨g,rfl,z8 hg,hl g rfl,(hr.cellAt (i*2) (by omega)).trans e1,(hr.cellAt (i*2+1) (by omega)).trans e2,Lib.frozen_of_heap hg _⟩
theorem ko {w:World} {g cap n size:Nat} {E:TypeId} {xs:List Value} (h:w.ownsRow 0 E size (.slice (some ⟨g,0,none⟩) n cap) n xs) (j:Nat) (u:Value):(w.setCell ⟨g,j,none⟩ u).ownsRow 0 E size (.slice (some ⟨g,0,none⟩) n cap) n (xs.set j u):=by
 obtain⟨h0,h1⟩:=h;refine⟨by simpa using h0, ?_⟩;rcases h1 with ⟨e,-⟩|⟨g',cap',cur,e,e1,e2,e3,e4,e5,e6⟩
 · cases e
 · cases e
   refine .inr ⟨g,cap,cur.setIfInBounds j u,rfl,Nat.zero_le _,heap_setCell_same w g j _ _ u e2,e3,e4,by simpa using e5, ?_⟩;rw[Array.toList_setIfInBounds,List.take_set,e6]
theorem qO {ow:Nat→Nat} (w:World) (p:Addr) (u:Value) {l:Nat} (h:ow p.block=l):But ow [l] w (w.setCell p u):=(But.of (Below.refl _ _)).set (p:=p) (by rw[h];exact List.mem_singleton.2 rfl) u
theorem BQ.putW {ow:Nat→Nat} {w:World} {K cnt:Nat} {vW vS:Value} {hW hS:List (Value × Nat)} {c:Nat→List Int} {d:Nat→List (Value × Int)} (h:BQ ow w K cnt vW vS hW c hS d) {i:Nat} {x:Value × Nat} (hx:hW[i]? = some x) {k:Nat} (hk:k<(c i).length) :
 ∃ g off cp,x.1 = .slice (some ⟨g,off,none⟩) (c i).length cp∧g<w.heap.size∧ow g=10+2*i∧w.frozen? ⟨g,off+k,none⟩ = false∧(∃ y,w.cell? ⟨g,off+k,none⟩ = some (.int .i64 y)) ∧
  ∀ u,BQ ow (w.setCell ⟨g,off+k,none⟩ (.int .i64 u)) K cnt vW vS hW (cU c i ((c i).set k u)) hS d∧But ow [10+2*i] w (w.setCell ⟨g,off+k,none⟩ (.int .i64 u)):=by
 rcases h.wide i x hx with ⟨-,e⟩|⟨g,off,cap,cur,e,hg,hl,h1,h2,h3,h4⟩
 · rw[e]at hk;simp at hk
 · obtain⟨y,hy⟩:∃ y,(c i)[k]? = some y:=⟨_,List.getElem?_eq_getElem hk⟩
   refine⟨g,off,cap,e,z8 hg,hl,Lib.frozen_of_heap hg _,⟨y,by rw[Lib.cell_of_heap hg];exact h4 k y hy⟩,fun u=>?_⟩;have hb:=qO w ⟨g,off+k,none⟩ (.int .i64 u) hl;refine⟨⟨(hb.block K (z8 h.box) (by rw[h.lab];simp;omega)).trans h.box,h.lab,zM h.rowW hb h.labW (by simp;omega),h.labW,zM h.rowS hb h.labS (by simp;omega),h.labS,fun j z hz=>?_,fun j z hz=>⟨zM (h.seen j z hz).1 hb (h.seen j z hz).2 (by simp;omega),(h.seen j z hz).2⟩⟩,hb⟩
   by_cases hij:j=i
   · subst hij
     rw[hx]at hz;cases hz;rw[vC];refine .inr ⟨g,off,cap,_,by rw[e,List.length_set],heap_setCell_same w g _ _ _ _ hg,hl,by rw[List.length_set];exact h1,h2,by simpa using h3,fun m z hm=>?_⟩;rw[List.getElem?_set]at hm;rw[Array.getElem?_setIfInBounds]
     by_cases hkm:k=m
     · subst hkm
       rw[if_pos rfl,if_pos hk]at hm;cases hm;rw[if_pos rfl,if_pos (by omega)]
     · rw[if_neg hkm]at hm
       rw[if_neg (by omega)];exact h4 m z hm
   · rw[qo _ _ hij]
     exact (h.wide j z hz).keeps hb (.refl _ _) (by simp;omega)
theorem WG (L:List (Value × Int)):(yg L).length=L.length*2:=by
 induction L with
 | nil=>rfl
 | cons y L ih =>
  have e:yg (y :: L)=y.1 :: .int .u8 y.2 :: yg L:=rfl;rw[e,List.length_cons,List.length_cons,List.length_cons,ih];omega
theorem WE:∀ (L:List (Value × Int)) (k:Nat) (x:Value × Int),k<L.length→((yg L).set (k*2) x.1).set (k*2+1) (.int .u8 x.2)=yg (L.set k x):=by
 intro L;induction L with
 | nil=>intro k x h;simp at h
 | cons y L ih =>
  intro k x h;have e:∀ (z:Value × Int) M,yg (z :: M)=z.1 :: .int .u8 z.2 :: yg M:=fun _ _=>rfl
  cases k with
  | zero=>rfl
  | succ k =>
   have:=ih k x (by simpa using h);rw[e,show (k+1)*2=k*2+1+1 by omega,List.set_cons_succ,List.set_cons_succ,List.set_cons_succ,List.set_cons_succ,this,List.set_cons_succ,e]
theorem BQ.putS {ow:Nat→Nat} {w:World} {K cnt:Nat} {vW vS:Value} {hW hS:List (Value × Nat)} {c:Nat→List Int} {d:Nat→List (Value × Int)} (h:BQ ow w K cnt vW vS hW c hS d) {i:Nat} {x:Value × Nat} (hx:hS[i]? = some x) {k:Nat} (hk:k<(d i).length) :
 ∃ g cp,x.1 = .slice (some ⟨g,0,none⟩) (d i).length cp∧g<w.heap.size∧ow g=11+2*i∧w.frozen? ⟨g,k*2,none⟩ = false∧w.frozen? ⟨g,k*2+1,none⟩ = false∧(∃ y,w.cell? ⟨g,k*2,none⟩ = some y)∧(∃ y,w.cell? ⟨g,k*2+1,none⟩ = some y) ∧
  ∀ u:Value × Int,BQ ow ((w.setCell ⟨g,k*2,none⟩ u.1).setCell ⟨g,k*2+1,none⟩ (.int .u8 u.2)) K cnt vW vS hW c hS (cU d i ((d i).set k u))∧But ow [11+2*i] w ((w.setCell ⟨g,k*2,none⟩ u.1).setCell ⟨g,k*2+1,none⟩ (.int .u8 u.2)):=by
 obtain⟨ho,hl⟩:=h.seen i x hx;obtain⟨q,cp,e,hq⟩:=wG ho;obtain⟨g,rfl,hg⟩:=hq (by omega);have hlg:ow g=11+2*i:=hl g (by rw[e];rfl);rw[e]at ho;obtain⟨y,hy⟩:∃ y,(d i)[k]? = some y:=⟨_,List.getElem?_eq_getElem hk⟩
 obtain⟨y1,y2⟩:=qP _ _ _ hy
 have hfz:∀ o,w.frozen? ⟨g,o,none⟩ = false:=fun o=>by
  rcases ho.2 with ⟨e2,-⟩|⟨g',cap',cur,e2,-,e3,-⟩
  · cases e2
  · cases e2;exact Lib.frozen_of_heap e3 _
 refine⟨g,cp,e,hg,hlg,hfz _,hfz _,⟨_,(ho.cellAt (k*2) (by omega)).trans y1⟩,⟨_,(ho.cellAt (k*2+1) (by omega)).trans y2⟩,fun u=>?_⟩;have hb:But ow [11+2*i] w ((w.setCell ⟨g,k*2,none⟩ u.1).setCell ⟨g,k*2+1,none⟩ (.int .u8 u.2)):=(qO w ⟨g,k*2,none⟩ u.1 hlg).set (p:=⟨g,k*2+1,none⟩) (by simp[hlg]) _;have hn:=ko (ko ho (k*2) u.1) (k*2+1) (.int .u8 u.2);rw[WE _ _ _ hk]at hn;refine⟨⟨(hb.block K (z8 h.box) (by rw[h.lab];simp;omega)).trans h.box,h.lab,zM h.rowW hb h.labW (by simp;omega),h.labW,zM h.rowS hb h.labS (by simp;omega),h.labS,fun j z hz=>(h.wide j z hz).keeps hb (.refl _ _) (by simp;omega),fun j z hz=>?_⟩,hb⟩
 by_cases hij:j=i
 · subst hij
   rw[hx]at hz;cases hz;rw[vC,List.length_set,e];exact⟨hn,fun k hk=>by rw[←e]at hk;exact hl k hk⟩
 · rw[qo _ _ hij]
   exact⟨zM (h.seen j z hz).1 hb (h.seen j z hz).2 (by simp;omega),(h.seen j z hz).2⟩
theorem BQ.pushW {ow ow':Nat→Nat} {w w8:World} {K cnt g n cp:Nat} {vS:Value} {hW hS:List (Value × Nat)} {c:Nat→List Int} {d:Nat→List (Value × Int)} (h:BQ ow w K cnt (.slice (some ⟨g,0,none⟩) n cp) vS hW c hS d) {i:Nat} {x:Value × Nat} (hx:hW[i]? = some x) {v':Value} {l':List Int}
 (he:Ext ow ow' w) (hb:But ow [10+2*i] w w8) (ht:zI ow' w8 (10+2*i) v' l') :
 BQ ow' (w8.setCell ⟨g,i*2,none⟩ v') K cnt (.slice (some ⟨g,0,none⟩) n cp) vS (hW.set i (v',x.2)) (cU c i l') hS d∧Zq ow w (w8.setCell ⟨g,i*2,none⟩ v'):=by
 have hn:n=hW.length:=by
  rcases h.rowW.2 with ⟨e,-⟩|⟨g',cap',cur,e,-⟩
  · cases e
  · cases e;rfl
 subst hn;have hgl:ow g=2:=h.labW g rfl;obtain⟨q,cp2,e2,hq⟩:=wG h.rowW;have hi:=(List.getElem?_eq_some_iff.1 hx).1;obtain⟨g2,e3,hg⟩:=hq (by omega);cases e2;cases e3;have hgl':ow' g=2:=by rw[he g hg];exact hgl
 have hb2:But ow' [2] w8 (w8.setCell ⟨g,i*2,none⟩ v'):=qO w8 ⟨g,i*2,none⟩ v' hgl';have r1:w8.ownsRow 0 133 2 (.slice (some ⟨g,0,none⟩) hW.length cp) hW.length (hW.flatMap wE):=zM h.rowW hb h.labW (by simp;omega);have r2:=ko r1 (i*2) v';rw[Yp hW i x v' hx]at r2;have hlab:=yA h.rowW he h.labW
 refine⟨⟨(hb2.block K (Nat.lt_of_lt_of_le (z8 h.box) hb.size) (by rw[he K (z8 h.box),h.lab];simp)).trans ((hb.block K (z8 h.box) (by rw[h.lab];simp;omega)).trans h.box),by rw[he K (z8 h.box)];exact h.lab,by rw[List.length_set];exact r2,hlab,
  zM (zM h.rowS hb h.labS (by simp;omega)) hb2 (yA h.rowS he h.labS) (by simp),yA h.rowS he h.labS,fun j z hz=>?_,fun j z hz=>⟨zM (zM (h.seen j z hz).1 hb (h.seen j z hz).2 (by simp;omega)) hb2 (yA (h.seen j z hz).1 he (h.seen j z hz).2) (by simp;omega),yA (h.seen j z hz).1 he (h.seen j z hz).2⟩⟩, ?_⟩
 · rw[List.getElem?_set]at hz
   by_cases hij:i=j
   · subst hij
     rw[if_pos rfl,if_pos hi]at hz;cases hz;rw[vC];exact ht.keeps hb2 (.refl _ _) (by simp;omega)
   · rw[if_neg hij]at hz
     rw[qo _ _ (fun e=>hij e.symm)];exact ((h.wide j z hz).keeps hb he (by simp;omega)).keeps hb2 (.refl _ _) (by simp;omega)
 · exact (Zq.of hb (by simp <;> omega)).trans he (Zq.of hb2 (by simp))
theorem BQ.pushS {ow ow':Nat→Nat} {w w8:World} {K cnt g n cp:Nat} {vW:Value} {hW hS:List (Value × Nat)} {c:Nat→List Int} {d:Nat→List (Value × Int)} (h:BQ ow w K cnt vW (.slice (some ⟨g,0,none⟩) n cp) hW c hS d) {i:Nat} {x:Value × Nat} (hx:hS[i]? = some x) {v':Value} {l':List (Value × Int)}
 (he:Ext ow ow' w) (hb:But ow [11+2*i] w w8) (ht:w8.ownsRow 0 108 2 v' l'.length (yg l')∧∀ k,v'.ownBlock=some k→ow' k=11+2*i) :
 BQ ow' (w8.setCell ⟨g,i*2,none⟩ v') K cnt vW (.slice (some ⟨g,0,none⟩) n cp) hW c (hS.set i (v',x.2)) (cU d i l')∧Zq ow w (w8.setCell ⟨g,i*2,none⟩ v'):=by
 have hn:n=hS.length:=by
  rcases h.rowS.2 with ⟨e,-⟩|⟨g',cap',cur,e,-⟩
  · cases e
  · cases e;rfl
 subst hn;have hgl:ow g=3:=h.labS g rfl;obtain⟨q,cp2,e2,hq⟩:=wG h.rowS;have hi:=(List.getElem?_eq_some_iff.1 hx).1;obtain⟨g2,e3,hg⟩:=hq (by omega);cases e2;cases e3;have hgl':ow' g=3:=by rw[he g hg];exact hgl
 have hb2:But ow' [3] w8 (w8.setCell ⟨g,i*2,none⟩ v'):=qO w8 ⟨g,i*2,none⟩ v' hgl';have r1:w8.ownsRow 0 135 2 (.slice (some ⟨g,0,none⟩) hS.length cp) hS.length (hS.flatMap wE):=zM h.rowS hb h.labS (by simp;omega);have r2:=ko r1 (i*2) v';rw[Yp hS i x v' hx]at r2;have hlab:=yA h.rowS he h.labS
 refine⟨⟨(hb2.block K (Nat.lt_of_lt_of_le (z8 h.box) hb.size) (by rw[he K (z8 h.box),h.lab];simp)).trans ((hb.block K (z8 h.box) (by rw[h.lab];simp;omega)).trans h.box),by rw[he K (z8 h.box)];exact h.lab,
  zM (zM h.rowW hb h.labW (by simp;omega)) hb2 (yA h.rowW he h.labW) (by simp),yA h.rowW he h.labW,by rw[List.length_set];exact r2,hlab,fun j z hz=>((h.wide j z hz).keeps hb he (by simp;omega)).keeps hb2 (.refl _ _) (by simp;omega),fun j z hz=>?_⟩, ?_⟩
 · rw[List.getElem?_set]at hz
   by_cases hij:i=j
   · subst hij
     rw[if_pos rfl,if_pos hi]at hz;cases hz;rw[vC];exact⟨zM ht.1 hb2 ht.2 (by simp;omega),ht.2⟩
   · rw[if_neg hij]at hz
     rw[qo _ _ (fun e=>hij e.symm)];exact⟨zM (zM (h.seen j z hz).1 hb (h.seen j z hz).2 (by simp;omega)) hb2 (yA (h.seen j z hz).1 he (h.seen j z hz).2) (by simp;omega),yA (h.seen j z hz).1 he (h.seen j z hz).2⟩
 · exact (Zq.of hb (by simp <;> omega)).trans he (Zq.of hb2 (by simp))
theorem YQ {w8:World} {K:Nat} {cs:Array Value} {T:TypeId} {j:Nat} {u x:Value} (h:w8.heap[K]? = some (.cells cs T (0,0))):((w8.setCell ⟨K,j,none⟩ u).setCell ⟨K,0,none⟩ x).heap[K]? = some (.cells ((cs.setIfInBounds j u).setIfInBounds 0 x) T (0,0)):=
 heap_setCell_same _ K 0 _ _ _ (heap_setCell_same w8 K j _ _ _ h)
theorem BQ.addW {ow ow':Nat→Nat} {w w8:World} {K cnt:Nat} {vW vS vW' v:Value} {hW hS:List (Value × Nat)} {c:Nat→List Int} {d:Nat→List (Value × Int)} (h:BQ ow w K cnt vW vS hW c hS d)
 (he:Ext ow ow' w) (hb:But ow [2] w w8) (hr:w8.ownsRow 0 133 2 vW' (hW.length+1) (hW.flatMap wE++wE (v,cnt))) (hl:∀ k,vW'.ownBlock=some k→ow' k=2) (ht:zI ow w (10+2*hW.length) v (c hW.length)) :
 BQ ow' ((w8.setCell ⟨K,3,none⟩ vW').setCell ⟨K,0,none⟩ (.int .i64 ((cnt+1:Nat):Int))) K (cnt+1) vW' vS (hW++[(v,cnt)]) c hS d∧But ow [1,2] w ((w8.setCell ⟨K,3,none⟩ vW').setCell ⟨K,0,none⟩ (.int .i64 ((cnt+1:Nat):Int))):=by
 have hK:=z8 h.box;have hlK:ow' K=1:=by rw[he K hK];exact h.lab
 have hbx:=(hb.block K hK (by rw[h.lab];simp)).trans h.box;have hb2:But ow' [1] w8 ((w8.setCell ⟨K,3,none⟩ vW').setCell ⟨K,0,none⟩ (.int .i64 ((cnt+1:Nat):Int))):=(qO w8 ⟨K,3,none⟩ vW' hlK).set (p:=⟨K,0,none⟩) (by simp[hlK]) _
 refine⟨⟨(YQ hbx).trans (by rfl),hlK,by rw[List.length_append,List.length_singleton,List.flatMap_append];exact zM (by simpa using hr) hb2 hl (by simp),hl,
  zM (zM h.rowS hb h.labS (by simp)) hb2 (yA h.rowS he h.labS) (by simp),yA h.rowS he h.labS,fun j z hz=>?_,fun j z hz=>⟨zM (zM (h.seen j z hz).1 hb (h.seen j z hz).2 (by simp;omega)) hb2 (yA (h.seen j z hz).1 he (h.seen j z hz).2) (by simp;omega),yA (h.seen j z hz).1 he (h.seen j z hz).2⟩⟩, ?_⟩
 · by_cases hj:j<hW.length
   · rw[List.getElem?_append_left hj]at hz
     exact ((h.wide j z hz).keeps hb he (by simp;omega)).keeps hb2 (.refl _ _) (by simp;omega)
   · have hj2:=(List.getElem?_eq_some_iff.1 hz).1
     simp only[List.length_append,List.length_singleton]at hj2;obtain rfl:j=hW.length:=by omega
     rw[List.getElem?_append_right (by omega)]at hz;simp at hz;subst hz;exact (ht.keeps hb he (by simp;omega)).keeps hb2 (.refl _ _) (by simp;omega)
 · exact ((zi hb (by simp)).set (p:=⟨K,3,none⟩) (by simp[h.lab]) _).set (p:=⟨K,0,none⟩) (by simp[h.lab]) _
theorem BQ.addS {ow ow':Nat→Nat} {w w8:World} {K cnt:Nat} {vW vS vS' v:Value} {hW hS:List (Value × Nat)} {c:Nat→List Int} {d:Nat→List (Value × Int)} (h:BQ ow w K cnt vW vS hW c hS d)
 (he:Ext ow ow' w) (hb:But ow [3] w w8) (hr:w8.ownsRow 0 135 2 vS' (hS.length+1) (hS.flatMap wE++wE (v,cnt))) (hl:∀ k,vS'.ownBlock=some k→ow' k=3) (ht:w.ownsRow 0 108 2 v (d hS.length).length (yg (d hS.length))∧∀ k,v.ownBlock=some k→ow k=11+2*hS.length) :
 BQ ow' ((w8.setCell ⟨K,15,none⟩ vS').setCell ⟨K,0,none⟩ (.int .i64 ((cnt+1:Nat):Int))) K (cnt+1) vW vS' hW c (hS++[(v,cnt)]) d∧But ow [1,3] w ((w8.setCell ⟨K,15,none⟩ vS').setCell ⟨K,0,none⟩ (.int .i64 ((cnt+1:Nat):Int))):=by
 have hK:=z8 h.box;have hlK:ow' K=1:=by rw[he K hK];exact h.lab
 have hbx:=(hb.block K hK (by rw[h.lab];simp)).trans h.box;have hb2:But ow' [1] w8 ((w8.setCell ⟨K,15,none⟩ vS').setCell ⟨K,0,none⟩ (.int .i64 ((cnt+1:Nat):Int))):=(qO w8 ⟨K,15,none⟩ vS' hlK).set (p:=⟨K,0,none⟩) (by simp[hlK]) _
 refine⟨⟨(YQ hbx).trans (by rfl),hlK,zM (zM h.rowW hb h.labW (by simp)) hb2 (yA h.rowW he h.labW) (by simp),yA h.rowW he h.labW,by rw[List.length_append,List.length_singleton,List.flatMap_append];exact zM (by simpa using hr) hb2 hl (by simp),hl,
  fun j z hz=>((h.wide j z hz).keeps hb he (by simp;omega)).keeps hb2 (.refl _ _) (by simp;omega),fun j z hz=>?_⟩, ?_⟩
 · by_cases hj:j<hS.length
   · rw[List.getElem?_append_left hj]at hz
     exact⟨zM (zM (h.seen j z hz).1 hb (h.seen j z hz).2 (by simp;omega)) hb2 (yA (h.seen j z hz).1 he (h.seen j z hz).2) (by simp;omega),yA (h.seen j z hz).1 he (h.seen j z hz).2⟩
   · have hj2:=(List.getElem?_eq_some_iff.1 hz).1
     simp only[List.length_append,List.length_singleton]at hj2;obtain rfl:j=hS.length:=by omega
     rw[List.getElem?_append_right (by omega)]at hz;simp at hz;subst hz;exact⟨zM (zM ht.1 hb ht.2 (by simp;omega)) hb2 (yA ht.1 he ht.2) (by simp;omega),yA ht.1 he ht.2⟩
 · exact ((zi hb (by simp)).set (p:=⟨K,15,none⟩) (by simp[h.lab]) _).set (p:=⟨K,0,none⟩) (by simp[h.lab]) _
end
open Go.RowKit
attribute [local go_sem ↓] zL zJ
theorem Vh (B:Nat) (c:Cd) (w:World) (pv:Value) (picks:List Int) (fuel:Int) (hI:CIn w B c) (hBw:B≤w.heap.size) (hP:zB xh 1 w B pv picks) (hno:zV c.words c.threads picks.length fuel≠0) :
 Calls Tryz.prog 9 #[.agg #[.int .i64 c.words,c.tv],pv,.int .i64 fuel] w (jO c picks fuel w):=by
 obtain⟨pq,pc,epv,hpl,hpg⟩:=hP.form;have hproom:=hP.room;obtain⟨bo,bcp,eb,hbl,hbg⟩:=hI.tlies.form;subst epv;obtain⟨np,hnp⟩:∃ n,n=picks.length:=⟨_,rfl⟩
 obtain⟨W1,hW1⟩:∃ W1,W1=(w.alloc (.cells #[.int .i64 c.words,c.tv] 24)).alloc (.cells #[.slice none 0 0,.bool false,.bool false] 32):=⟨_,rfl⟩
 have z1:(w.alloc (.cells #[.int .i64 c.words,c.tv] 24)).heap.size=w.heap.size+1:=by simp
 have hz1:W1.heap.size=w.heap.size+2:=by rw[hW1];simp
 have hB1:Below w.heap.size w W1:=by rw[hW1];exact (ze w _).alloc (by omega) _
 have hC1:W1.heap[w.heap.size]? = some (.cells #[.int .i64 c.words,c.tv] 24 (0,0)):=by rw[hW1,Below.heap_alloc _ _ _ (by omega)];exact (MapKept.heap_alloc _ _).1
 have hR1:W1.heap[w.heap.size+1]? = some (.cells #[.slice none 0 0,.bool false,.bool false] 32 (0,0)):=by rw[hW1,←z1];exact (MapKept.heap_alloc _ _).1
 unfold jO;rw[←hnp]at hno hproom hpl hpg ⊢;have HRF:=hid (Zv B c W1 (hI.keeps (hB1.mono hBw)) (Nat.le_trans hBw hB1.size));obtain⟨ER,hER⟩:∃ e,e=zV c.words c.threads np fuel:=⟨_,rfl⟩
 rw[←hER]at hno ⊢;have HNO:=hid hno;have HER:=hid hER;have HR1:=hid hR1;have HB1:=hid hB1;have e30:=zH 32 #[] #[.slice none 0 0,.bool false,.bool false] (by kernel_rfl);obtain⟨q0,q1⟩:=zt hC1;have HW1:=hid hW1;rw[hW1]at q0 q1;rw[eb]at HRF q0 q1 HW1 ⊢;have hz1':w.heap.size+1<W1.heap.size:=by omega
 clear hI hP hB1 hC1 hR1 hW1 hz1 z1 hbg hpg hnp eb hbl hBw hER hno;go_enter Tryz.func9,Tryz.ntmps9;go_wp2_with fail;rw[←HW1.out];refine HRF.out.mono ?_;rintro e w2 ⟨⟨t,a,b',x,rfl,hx⟩,hb2⟩;have HX:=hid hx;have HB2:=hid (HB1.out.trans (hb2.mono HB1.out.size));have hR2:=(hb2.block (w.heap.size+1) hz1').trans HR1.out;have HR2:=hid hR2;clear hb2 hx q0 q1;obtain⟨s0,s1,s2⟩:=xU hR2;have f0:=Lib.frozen_of_heap hR2 0;have f1:=Lib.frozen_of_heap hR2 1;have f2:=Lib.frozen_of_heap hR2 2;have hlr:=z8 hR2;clear hR2
 by_cases hx0:x=0
 · have e1:(x != 0)=false:=by simpa using hx0
   have hck:=HX.out.1 hx0;have hER:=HER.out;unfold zV at hER;rw[if_neg (by simpa using hck)]at hER
   by_cases hf:fuel<1
   · rw[if_pos hf]at hER
     subst hER;have e2:decide (fuel<1)=true:=by simpa using hf
     clear hx0 hck hf;go_wp2_with fail;refine bodyPost_ret (v:=.tuple #[.agg #[.slice none 0 0,.bool false,.bool false],.int .i64 1]) (vT (p:=6) (u:=7) rfl _ _ (w.heap.size+1) _ _ _ _ rfl rfl ((Below.heap_alloc _ _ _ (by show w.heap.size+1<_;simpa[World.setCell]using hlr)).trans (vI HR2.out _ _ _))) rfl ?_;exact⟨(((HB2.out.setCell (by show w.heap.size≤w.heap.size+1;omega) _).setCell (by show w.heap.size≤w.heap.size+1;omega) _).setCell (by show w.heap.size≤w.heap.size+1;omega) _).alloc (by have h:=HB2.out.size;simpa[World.setCell]using h) _,.inl ⟨by decide,rfl⟩⟩
   · have e2:decide (fuel<1)=false:=by simpa using hf
     rw[if_neg hf]at hER
     by_cases h1:np > 65536
     · have hE3:ER=3:=by
        rw[hER,if_pos (by omega)]
       subst hE3;have e3:decide ((65536:Int)<(np:Int))=true:=by simp;omega
       have e3':decide (65536<np)=true:=by simp;omega
       have h1H:=hid h1;clear hx0 hck hf h1 hER;go_wp2_with fail;refine bodyPost_ret (v:=.tuple #[.agg #[.slice none 0 0,.bool false,.bool false],.int .i64 3]) (vT (p:=6) (u:=7) rfl _ _ (w.heap.size+1) _ _ _ _ rfl rfl ((Below.heap_alloc _ _ _ (by show w.heap.size+1<_;simpa[World.setCell]using hlr)).trans (vI HR2.out _ _ _))) rfl ?_;exact⟨(((HB2.out.setCell (by show w.heap.size≤w.heap.size+1;omega) _).setCell (by show w.heap.size≤w.heap.size+1;omega) _).setCell (by show w.heap.size≤w.heap.size+1;omega) _).alloc (by have h:=HB2.out.size;simpa[World.setCell]using h) _,.inl ⟨by decide,rfl⟩⟩
     · by_cases h2:fuel > 1048576
       · have hE3:ER=3:=by
          rw[hER,if_pos (by omega)]
         subst hE3;have e3:decide ((65536:Int)<(np:Int))=false:=by simp;omega
         have e3':decide (65536<np)=false:=by simp;omega
         have e4:decide ((1048576:Int)<fuel)=true:=by simpa using h2
         have h1H:=hid h1;clear hx0 hck hf h1 h2 hER;go_wp2_with fail;refine bodyPost_ret (v:=.tuple #[.agg #[.slice none 0 0,.bool false,.bool false],.int .i64 3]) (vT (p:=6) (u:=7) rfl _ _ (w.heap.size+1) _ _ _ _ rfl rfl ((Below.heap_alloc _ _ _ (by show w.heap.size+1<_;simpa[World.setCell]using hlr)).trans (vI HR2.out _ _ _))) rfl ?_;exact⟨(((HB2.out.setCell (by show w.heap.size≤w.heap.size+1;omega) _).setCell (by show w.heap.size≤w.heap.size+1;omega) _).setCell (by show w.heap.size≤w.heap.size+1;omega) _).alloc (by have h:=HB2.out.size;simpa[World.setCell]using h) _,.inl ⟨by decide,rfl⟩⟩
       · exact absurd (by rw[hER,if_neg (by omega)]) HNO.out
 · have e1:(x != 0)=true:=by simpa using hx0
   have hER:ER=14:=by
    have h:=HER.out;unfold zV at h;rw[if_pos (by simpa using fun h=>hx0 (HX.out.2 h))]at h;exact h
   subst hER;clear hx0;go_wp2_with fail;refine bodyPost_ret (v:=.tuple #[.agg #[.slice none 0 0,.bool false,.bool false],.int .i64 14]) (vT (p:=6) (u:=7) rfl _ _ (w.heap.size+1) _ _ _ _ rfl rfl ((Below.heap_alloc _ _ _ (by show w.heap.size+1<_;simpa[World.setCell]using hlr)).trans (vI HR2.out _ _ _))) rfl ?_;exact⟨(((HB2.out.setCell (by show w.heap.size≤w.heap.size+1;omega) _).setCell (by show w.heap.size≤w.heap.size+1;omega) _).setCell (by show w.heap.size≤w.heap.size+1;omega) _).alloc (by have h:=HB2.out.size;simpa[World.setCell]using h) _,.inl ⟨by decide,rfl⟩⟩
theorem uj (n:Nat) (h:n≤1000000) (w:World):Calls Tryz.prog 124 #[.int .i64 (n:Int)] w fun e w'=>e = .returned (.int .i64 (-1000 - (n:Int)))∧w=w':=by
 go_enter Tryz.func124,Tryz.ntmps124;go_wp2_with fail;go_ret;exact⟨rfl,rfl⟩
theorem K9 (n:Nat) (h:n≤1000000) (w:World):Calls Tryz.prog 148 #[.int .i64 (-1000 - (n:Int)),.int .i64 (n:Int)] w fun e w'=>e = .returned (.bool true)∧Below w.heap.size w w':=by
 have HM:=hid (fun w=>uj n h w);go_enter Tryz.func148,Tryz.ntmps148;go_wp2_with fail;refine (HM.out _).mono ?_;rintro e w' ⟨rfl,rfl⟩;go_wp2_with fail;go_ret;exact⟨rfl,Below.refl _ _⟩
def numOf (nW:List (Value × Nat)) (j:Nat):Nat:=((nW[j]?).map (·.2)).getD 0
theorem qU {nW:List (Value × Nat)} {j:Nat} {x:Value × Nat} (h:nW[j]? = some x):numOf nW j=x.2:=by unfold numOf;rw[h];rfl
def mW (nW:List (Value × Nat)) (j:Nat):Int:=-1000 - (numOf nW j:Int)
def filled (nW:List (Value × Nat)) (c:Nat→List Int) (i:Nat):Nat→List Int:=fun j=>if j<i then List.replicate (c j).length (mW nW j) else c j
theorem UG (nW:List (Value × Nat)) (c:Nat→List Int):filled nW c 0=c:=by funext j;simp[filled]
theorem YE (nW:List (Value × Nat)) (c:Nat→List Int) (i:Nat):filled nW c i i=c i:=by simp[filled]
theorem UH (nW:List (Value × Nat)) (c:Nat→List Int) (i:Nat):cU (filled nW c i) i (List.replicate (c i).length (mW nW i))=filled nW c (i+1):=by
 funext j;unfold cU filled
 by_cases h:j=i
 · subst h;simp
 · rw[if_neg h]
   by_cases h2:j<i
   · rw[if_pos h2,if_pos (by omega)]
   · rw[if_neg h2,if_neg (by omega)]
theorem VA (l:List Int) (m:Int) (k:Nat) (hk:k<l.length):(List.replicate k m++l.drop k).set k m=List.replicate (k+1) m++l.drop (k+1):=by
 rw[List.set_append_right _ _ (by simp),List.length_replicate,Nat.sub_self,List.drop_eq_getElem_cons hk,List.set_cons_zero,List.replicate_succ',List.append_assoc]
 rfl
theorem ZA (l:List Int) (m:Int) (k:Nat) (hk:k≤l.length):(List.replicate k m++l.drop k).length=l.length:=by simp;omega
theorem UJ {ow:Nat→Nat} {w:World} {K cnt:Nat} {vW vS:Value} {nW nS:List (Value × Nat)} {c:Nat→List Int} {d:Nat→List (Value × Int)} (h:BQ ow w K cnt vW vS nW c nS d) (hn:nW.length≤1000) (hnum:∀ x ∈ nW,x.2≤1000000) (hlen:∀ (i:Nat) x,nW[i]? = some x→(c i).length≤4000000) :
 Calls Tryz.prog 32 #[.pointer (some ⟨K,0,none⟩)] w fun e w'=>e = .returned (.tuple #[])∧Zq ow w w'∧BQ ow w' K cnt vW vS nW (filled nW c nW.length) nS d:=by
 obtain⟨qW,cW,eW,-⟩:=wG h.rowW;subst eW;have k3:w.cell? ⟨K,3,none⟩ = some (.slice qW nW.length cW):=zh h.box 3 _ rfl;have hK:=z8 h.box;have HH:=hid h;have HNUM:=hid hnum;have HLEN:=hid hlen;obtain⟨N,hN⟩:∃ N,N=nW.length:=⟨_,rfl⟩
 rw[←hN]at k3 hn ⊢;have HN:=hid hN;clear h hN hnum hlen;go_enter Tryz.func32,Tryz.ntmps32;go_wp2_with fail
 go_loopw [10] (fun iv wr=>∃ i:Nat,i≤N∧iv = .int .i64 (i:Int)∧Hid (Zq ow w wr∧BQ ow wr K cnt (.slice qW N cW) vS nW (filled nW c i) nS d)) (fun iv _=>N - (intOf iv).toNat)
 case atStart=>exact⟨0,by omega,rfl,hid ⟨.refl _ _,by rw[UG,HN.out];exact HH.out⟩⟩
 case round =>
  obtain⟨i,hiN,rfl,hR⟩:=hrel
  by_cases hlt:i<N
  · obtain⟨x,hx⟩:∃ x,nW[i]? = some x:=⟨_,List.getElem?_eq_getElem (by rw[←HN.out];exact hlt)⟩
    have k3:wr.cell? ⟨K,3,none⟩ = some (.slice qW N cW):=zh hR.out.2.box 3 _ rfl;have hK:=z8 hR.out.2.box;obtain⟨gW,rfl,hgW,-,h0,h1,-⟩:=hR.out.2.atW hx;obtain⟨xq,xc,ex⟩:=(hR.out.2.wide i x hx).form';rw[YE]at ex;obtain⟨xv,n⟩:=x;simp only at ex h0 h1;subst ex;obtain⟨M,hM⟩:∃ M,M=(c i).length:=⟨_,rfl⟩
    have HX:=hid hx;have hM4:M≤4000000:=by rw[hM];exact HLEN.out i _ hx
    have hn6:n≤1000000:=HNUM.out _ (List.mem_of_getElem? hx);have hmk:mW nW i = -1000 - (n:Int):=by unfold mW;rw[qU hx]
    have HMK:=hid hmk;rw[←hM]at h0;have HM:=hid hM;have HMA:=hid (fun u=>uj n hn6 u);have HR:=hR;clear hR hx hM hmk;go_wp2_with fail
    go_loopw [24] (fun iv wi=>∃ k:Nat,k≤M∧iv = .int .i64 (k:Int)∧Hid (Zq ow w wi∧BQ ow wi K cnt (.slice (some ⟨gW,0,none⟩) N cW) vS nW (cU (filled nW c i) i (List.replicate k (mW nW i)++(c i).drop k)) nS d)) (fun iv _=>M - (intOf iv).toNat)
    case atStart=>exact⟨0,by omega,rfl,hid ⟨HR.out.1,by
     have h:=HR.out.2;rw[←z1n (filled nW c i) i,YE]at h
     simpa using h⟩⟩
    case round =>
     obtain⟨k,hkM,rfl,hT⟩:=hrel
     by_cases hk:k<M
     · have hkc:k<(cU (filled nW c i) i (List.replicate k (mW nW i)++(c i).drop k) i).length:=by rw[vC,ZA _ _ _ (by rw[←HM.out];exact hkM),←HM.out];exact hk
       obtain⟨V,hV⟩:∃ V,V=wr.drew:=⟨_,rfl⟩
       have hVb:Below wr.heap.size wr V:=by rw[hV];exact⟨rfl,rfl,rfl,Nat.le_refl _,fun _ _=>rfl⟩
       obtain⟨g,off,cp,e,hg,hgl,hfz,⟨y,hy⟩,hput⟩:=(hT.out.2.below hVb).putW HX.out hkc;obtain⟨gW',e2,hgW1,hgWl,h0,h1,-⟩:=hT.out.2.atW HX.out;cases e2;rw[vC,ZA _ _ _ (by rw[←HM.out];exact hkM),←HM.out]at e;simp only[Value.slice.injEq]at e;obtain⟨rfl,-,rfl⟩:=e;have hp:=hput (-1000 - (n:Int));have hps:(List.replicate k (mW nW i)++(c i).drop k).set k (-1000 - (n:Int))=List.replicate (k+1) (mW nW i)++(c i).drop (k+1):=by rw[←HMK.out];exact VA _ _ _ (by rw[←HM.out];exact hk)
       rw[vC,hps,cU_cU]at hp;have HP:=hid hp;have hgne:gW≠g:=fun q=>by rw[q]at hgWl;omega
       have HZ:=hid (hT.out.1.trans (.refl _ _) ((Zq.ofb hVb).trans (.refl _ _) (Zq.of hp.2 (by simp <;> omega))));have HV:=hid hV;clear hput hp hkc hVb hV hps;simp only at h0 h1;rw[←HM.out]at h0;go_wp2_with fail;refine wp_region_held_drew (S:=zn (fun x=>x=gW) wr) (by kernel_rfl) (zn.drew _ _) (fun hSw=>?_);rw[←HV.out];rw[←HV.out]at hSw;refine tH 0 (.pointer (some ⟨gW,i*2,none⟩)) hSw ?_;(try simp only[nS]);refine tH 1 (.pointer (some ⟨gW,i*2,none⟩)) hSw ?_;(try simp only[nS]);refine tH 2 (.pointer (some ⟨gW,i*2,none⟩)) hSw ?_;(try simp only[nS]);refine tG 3 (.slice (some ⟨g,off,none⟩) M xc) hSw (fun W hW=>?_) ?_
       · have h0:=hW.cell (by first|rfl|omega|(dsimp only;omega)) h0
         first|(go_simp;done)|rfl
       (try simp only[nS]);refine tH 4 (.int .i64 (k:Int)) hSw ?_;(try simp only[nS]);refine tH 5 (.pointer (some ⟨gW,i*2,none⟩)) hSw ?_;(try simp only[nS]);refine tH 6 (.pointer (some ⟨gW,i*2,none⟩)) hSw ?_;(try simp only[nS]);refine tH 7 (.pointer (some ⟨gW,i*2+1,none⟩)) hSw ?_;(try simp only[nS]);refine tG 8 (.int .i64 (n:Int)) hSw (fun W hW=>?_) ?_
       · have h1:=hW.cell (by first|rfl|omega|(dsimp only;omega)) h1
         first|(go_simp;done)|rfl
       (try simp only[nS]);refine tR 9 (fun K hK=>?_);clear hSw;go_simp;refine (HMA.out _).mono ?_;rintro e w2 ⟨rfl,rfl⟩;refine hK.out _ _ (fun x hx=>by rw[HV.out];rfl) (fun hSw=>?_);clear hK K;(try simp only[nS]);refine tH 10 (.pointer (some ⟨g,off+k,none⟩)) hSw ?_;(try simp only[nS]);refine tR 11 (fun K hK=>?_);clear hSw;go_simp;refine hK.out _ _ (fun x hx=>(Below.heap_setCell _ _ _ _ (by show x≠g;omega)).trans (by rw[HV.out];rfl)) (fun hSw=>?_);clear hK K;(try simp only[nS]);refine wpAnyH_done (by kernel_rfl) ?_ _;go_wp2_with fail;go_roundw
       case rel=>exact⟨k+1,hk,by go_num,hid ⟨HZ.out,HP.out.1⟩⟩
       case measure=>simp[intOf];omega
     · obtain rfl:M=k:=by omega
       have hfin:=hT.out.2;rw[List.drop_eq_nil_of_le (by rw[←HM.out];exact Nat.le_refl _),List.append_nil]at hfin;have hf2:cU (filled nW c i) i (List.replicate M (mW nW i))=filled nW c (i+1):=by rw[←UH,←HM.out]
       rw[hf2]at hfin;have HF:=hid (And.intro hT.out.1 hfin);clear hfin hf2 hT;go_wp2_with fail;go_roundw
       case rel=>exact⟨i+1,hlt,by go_num,HF⟩
       case measure=>simp[intOf];omega
  · obtain rfl:N=i:=by omega
    go_wp2_with fail
    go_end0
    exact⟨rfl,hR.out.1,hR.out.2⟩
