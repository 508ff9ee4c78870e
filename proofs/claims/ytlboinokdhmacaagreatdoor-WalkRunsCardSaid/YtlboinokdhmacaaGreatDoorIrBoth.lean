import Derived.Test.YtlboinokdhmacaaGreatDoorWkUndo
import Derived.Test.YtlboinokdhmacaaGreatDoorIrLast
import Derived.RangeFuncNested
import Derived.RangeFuncBound
import Derived.RangeFuncCalls
import Derived.RangeFuncLeaves
import Derived.Shelf.Abstract
import Derived.Shelf.RegionOpen
import Derived.OwnWalkIn
import Derived.TacticsInMore
import Derived.LoopNIn
import Derived.LoopIn
import Derived.RangeFuncFrom
namespace Go.Proofs.YtlboinokdhmacaaGreatDoor
set_option maxHeartbeats 64000000
set_option maxRecDepth 1000000
open Lib(hid)
section
open Go.RowKit Go.Shelf
theorem jK {w w':World} {k:Nat} (h:w'.heap[k]? = w.heap[k]?) (i:Nat):w'.cell? ⟨k,i,none⟩ = w.cell? ⟨k,i,none⟩:=by simp[World.cell?,h]
attribute [local go_sem] Oper.semAt_some
def vF (Bs:Nat) (ao:Option Addr) (W W':World):Prop:=W'.heap[Bs]? = W.heap[Bs]? ∧ ∀ a,ao=some a→W'.heap[a.block]? = W.heap[a.block]?
theorem vF.trans {Bs:Nat} {ao:Option Addr} {A B C:World} (h:vF Bs ao A B) (k:vF Bs ao B C):vF Bs ao A C:=⟨k.1.trans h.1,fun a e=>(k.2 a e).trans (h.2 a e)⟩
theorem vF.refl (Bs:Nat) (ao:Option Addr) (A:World):vF Bs ao A A:=⟨rfl,fun _ _=>rfl⟩
def kI (zs:List Value) (len k:Nat):Array Value:=#[.int .i64 ((len - 1 - k:Nat):Int),zs[len - 1 - k]?.getD .nilFunc]
theorem z2o (n:Nat) (hn:1≤n) (l Bs len cap:Nat) (ao:Option Addr) (zs:List Value) (hlen:len≤2000000) (J:Nat→World→Prop)
 (hY:∀ k W,J k W→k<len→YieldAt Fence.wide (n - 1) Tryz.prog l (kI zs len k) W fun e W'=>e = .returned (.bool true)∧J (k+1) W'∧vF Bs ao W W')
 (W:World) (hBs:W.cell? ⟨Bs,0,none⟩ = some (.slice ao len cap)) (hc:∀ j,j<len→∃ b off,ao=some ⟨b,off,none⟩ ∧ W.cell? ⟨b,off+j,none⟩ = some (zs[j]?.getD .nilFunc)) (h0:J 0 W) :
 CallsIn Fence.wide n Tryz.prog 256 #[.func (.yield l) #[] #[],.pointer (some ⟨Bs,0,none⟩)] W fun e W'=>(∃ v,e = .returned v)∧J len W':=by
 refine callsIn_of_wp Tryz.func256 rfl trivial ?_ rfl;simp only[Tryz.ntmps256,List.size_toArray,List.length_cons,List.length_nil,Nat.reduceAdd,Nat.reduceSub,Array.replicate_succ,Array.replicate_zero,List.push_toArray,List.append_toArray,List.nil_append,List.cons_append];have HC:=hid hc;clear hc
 gi_wp2
 gi_loopw [3] (fun i wr=>∃ r:Nat,r≤len∧i = .int .i64 ((r:Int) - 1)∧J (len - r) wr∧vF Bs ao W wr) (fun i _=>(intOf i+1).toNat)
 case atStart=>exact⟨len,Nat.le_refl _,rfl,by rw[Nat.sub_self];exact h0,vF.refl _ _ _⟩
 case round =>
  obtain⟨r,hr,rfl,hJs,hkp⟩:=hrel;have hbs:=(jK hkp.1 0).trans hBs;rcases r with _|q
  · gi_wp2
    go_end0
    exact⟨⟨_,rfl⟩,hJs⟩
  · obtain⟨b,off,hao,hcq⟩:=HC.out q (by omega)
    subst hao;have hcq2:=(jK (hkp.2 _ rfl) (off+q)).trans hcq;rw[show ((q+1:Nat):Int) - 1=(q:Int)by omega];have hy:=hY _ wr hJs (by omega);rw[kI,show len - 1 - (len - (q+1))=q by omega,show len - (q+1)+1=len - q by omega]at hy;obtain⟨fn,tmps,assign,body,hy,hR⟩:=hy;clear hcq hBs
    gi_wp2
    refine hR.mono ?_;rintro e W3 ⟨rfl,hJ3,hk3⟩;have HJ3:=hid hJ3;clear hJ3
    gi_wp2
    go_roundw
    case rel=>exact⟨q,by omega,rfl,HJ3.out,hkp.trans hk3⟩
    case measure=>simp[intOf]
theorem z2n (ao:Option Addr) (len cap:Nat) (w:World):Calls Tryz.prog 235 #[.slice ao len cap] w fun e w'=>e = .returned (.func (.func 256) #[] #[.pointer (some ⟨w.heap.size,0,none⟩)])∧w'=w.alloc (.cells #[.slice ao len cap] 122):=by
 have hmf:∀ (fn:Go.Fn) (first cap:Array Value) (w:World),(Instr.makeFunc fn first cap).run Tryz.prog w = .ok (.func fn first cap) w:=fun _ _ _ _=>rfl
 go_enter Tryz.func235,Tryz.ntmps235;go_wp2_with fail;go_ret;exact⟨rfl,rfl⟩
end
section
open Go Go.RowKit
def Mild (L:Nat) (I:Nat→World→Prop):Prop:=
 (∀ k W o,I k W→I k (W.alloc o))∧∀ k W l o o',I k W→L≤l→W.heap[l]? = some o→o.isCells=false→I k (W.putObj l o')
theorem Ve {F:Fence} {n:Nat} {P:Program} {g:Operand} {ps:Array Tmp} {assign body:Code} {Q:Exit→Act→World→Prop} {a:Act} {w:World}
 (hro:F.round=none) (h1:1≤n) {gf:Nat} {lb:Array Value} (hg:a.eval g = .func (.func gf) #[] lb) (hFg:F.fn gf) (eg:∀ args w,(callFunc gf args).run P w = .ok (.enter gf args) w)
 (vals:Nat→Array Value) (len:Nat) (hps:∀ k,(vals k).size=ps.size) (Kp:World→World→Prop)
 (hit:∀ (l:Nat) (J:Nat→World→Prop) (W:World),Below w.heap.size w W→(∀ k V,J k V→k<len→YieldAt F (n - 1 - 1) P l (vals k) V fun e V'=>e = .returned (.bool true)∧J (k+1) V'∧Kp V V')→J 0 W →
  CallsIn F (n - 1) P gf (#[.func (.yield l) #[] #[]]++lb) W fun e W'=>(∃ v,e = .returned v)∧J len W')
 (hKt:∀ {A B C:World},Kp A B→Kp B C→Kp A C) (hKb:∀ (V:World) (l:Nat) (o o':Obj),w.heap.size≤l→V.heap[l]? = some o→o.isCells=false→Kp V (V.putObj l o'))
 (I:Nat→World→Prop) (hI:Mild w.heap.size I) (h0:I 0 w) (a₁:Nat→Act)
 (hassign:∀ (l k:Nat) (W:World) (K:Act→World→Prop),K (a₁ k) W→assign.wpIn (F.inRound l) (n - 1 - 1) P (Exit.then K (fun _ _ _=>False)) { tmps:=(ps.zip (vals k)).foldl (fun t (p,v)=>t.setIfInBounds p v) a.tmps,defers:=[] } W)
 (hbody:∀ (l k:Nat) (W:World),I k W→k<len→body.wpIn (F.inRound l) (n - 1 - 1) P (fun e _ W'=>e = .normal∧KeepsOthers W W'∧Kp W W'∧I (k+1) W') (a₁ k) W)
 (hdone:∀ (D:Nat) (W:World),w.heap.size≤D→I len W→W.heap[D]? = some (.deferred (some []))→Q .normal { a with defers:={ target:=.collected D,args:=#[] } :: a.defers } W) :
 (Code.rangeFunc g ps assign body).wpIn F n P Q a w:=by
 refine wpIn_rangeFunc fun fn hfn=>?_
 rw[hro];have hsz:(w.alloc (.deferred (some []))).heap.size=w.heap.size+1:=by simp
 generalize hL:Loop.mk .ready none fn a.tmps ps assign body w.heap.size=L;have hLs:L.state = .ready∧L.pending=none∧L.params=ps∧L.fn=fn∧L.tmps=a.tmps∧L.assign=assign∧L.body=body:=by subst hL;exact⟨rfl,rfl,rfl,rfl,rfl,rfl,rfl⟩
 have hen:=run_enterLoop_outer (P:=P) (w:=w) fn a.tmps ps assign body;rw[hL]at hen;have hd1:((w.alloc (.deferred (some []))).alloc (.loop L)).heap[w.heap.size]? = some (.deferred (some [])):=(Below.heap_alloc _ _ _ (by simp)).trans (World.alloc_heap_new w _)
 have hl1:((w.alloc (.deferred (some []))).alloc (.loop L)).heap[w.heap.size+1]? = some (.loop L):=by
  have:=World.alloc_heap_new (w.alloc (.deferred (some []))) (.loop L)
  rwa [hsz]at this
 have hb1:Below w.heap.size w ((w.alloc (.deferred (some []))).alloc (.loop L)):=((Below.refl _ w).alloc (Nat.le_refl _) _).alloc (by simp) _;have hI1:I 0 ((w.alloc (.deferred (some []))).alloc (.loop L)):=hI.1 _ _ _ (hI.1 _ _ _ h0);generalize (w.alloc (.deferred (some []))).alloc (.loop L)=W1 at hen hd1 hl1 hb1 hI1;refine⟨w.heap.size+1,[{ target:=.collected w.heap.size,args:=#[] }],W1,{ target:=.fn (.func gf) lb,args:=#[.func (.yield (w.heap.size+1)) #[] #[]] },W1,gf,#[.func (.yield (w.heap.size+1)) #[] #[]]++lb,W1,hen, ?_, ?_, ?_,fun _=>h1, ?_⟩
 · simp only[resolve,hg]
   simp[go_sem]
 · intro f' hf'
   simp[Target.leads]at hf';subst hf';exact hFg
 · simp[invoke,go_sem,eg]
 refine (hit (w.heap.size+1) (fun k W=>I k W∧W.heap[w.heap.size+1]? = some (.loop L)∧W.heap[w.heap.size]? = some (.deferred (some []))) W1 hb1 ?_ ⟨hI1,hl1,hd1⟩).mono ?_
 · rintro k V ⟨k1,k2,k3⟩ hk
   have hlt:w.heap.size+1<V.heap.size:=(Array.getElem?_eq_some_iff.1 k2).1;have hy:=run_yield (P:=P) (args:=vals k) k2 (by rw[hLs.2.2.1];exact hps k);rw[hLs.2.2.1,hLs.2.2.2.1,hLs.2.2.2.2.1,hLs.2.2.2.2.2.1,hLs.2.2.2.2.2.2]at hy;refine⟨fn,_,assign,body,hy,roundIn_of_wpIn hfn (hassign _ k V _ ⟨_,run_beginRound k2 hLs.1, ?_⟩)⟩;refine wpIn_mono (hbody _ k _ (hI.2 _ _ _ _ _ k1 (by omega) k2 rfl) hk) ?_;rintro e a3 W3 ⟨rfl,q1,q2,q3⟩;have l3:W3.heap[w.heap.size+1]? = some (.loop { L with state:=.busy }):=q1.same _ _ (World.putObj_heap_same hlt) rfl;have d3:W3.heap[w.heap.size]? = some (.deferred (some [])):=q1.same _ _ ((World.putObj_heap_other (by omega)).trans k3) rfl;have hr:=run_endRound (P:=P) none l3;have hback:({ L with state:=if (none:Option Code).isNone then LoopState.ready else .done,pending:=none }:Loop)=L:=by subst hL;rfl
   rw[show ({ ({ L with state:=LoopState.busy }:Loop)with state:=if (none:Option Code).isNone then LoopState.ready else .done,pending:=none }:Loop)=L from hback]at hr;refine⟨_,_,hr,rfl,⟨hI.2 _ _ _ _ _ q3 (by omega) l3 rfl,World.putObj_heap_same (Array.getElem?_eq_some_iff.1 l3).1,(World.putObj_heap_other (by omega)).trans d3⟩, ?_⟩;exact hKt (hKt (hKb _ _ _ _ (by omega) k2 rfl) q2) (hKb _ _ _ _ (by omega) l3 rfl)
 · rintro e W2 ⟨⟨v,rfl⟩,k1,k2,k3⟩
   have hr:=run_endLoop (P:=P) k2 (by rw[hLs.1];simp);rw[hLs.2.1]at hr;exact⟨none,_,hr,hdone _ _ (Nat.le_refl _) (hI.2 _ _ _ _ _ k1 (by omega) k2 rfl) ((World.putObj_heap_other (by omega)).trans k3)⟩
end
open Go.RowKit
attribute [local go_sem ↓] zL zJ
theorem Y4 (z:Value) (n:Nat):madeCells #[z] n=(List.replicate n z).toArray:=by
 unfold madeCells;apply Array.ext
 · simp
 · intro i h1 h2
   simp[Nat.mod_one]
theorem Kw:(Tryz.prog.info? 4).map (fun i=>(i.zero,i.size,i.bytes))=some (some (.bool false),1,1):=by kernel_rfl
theorem uu (n:Nat) (hn:n≤8192) (w:World):(Instr.makeSlice 72 (.int .i64 (n:Int)) (.int .i64 (n:Int))).run Tryz.prog w = .ok (.slice (some ⟨w.heap.size,0,none⟩) n n) (w.alloc (.cells ((List.replicate n false).map Value.bool).toArray 4)):=by
 obtain⟨i0,hi,hz0,hz1,hz2⟩:=info_parts Kw;have h:=run_make (P:=Tryz.prog) w 72 4 i0 (.bool false) Tryz.underlying72 hi hz0 .i64 .i64 (n:Int) (n:Int) (by omega) (by omega) (by rw[hz2];omega) (by omega);rw[hz1,Int.toNat_natCast,Nat.mul_one]at h;rw[h,List.map_replicate,←Y4]
 rfl
def z3o (B:Nat) (g:Gr) (W:Int) (w:World) (e:Ending) (w':World):Prop:=∃ c m,e = .returned (.pointer (some ⟨c,0,none⟩))∧zP w' B c m g W (List.replicate g.sites.toNat false)∧Below w.heap.size w w'∧w.heap.size≤c∧w.heap.size≤m
theorem VZ (B:Nat) (g:Gr) (W:Int) (w:World) (hI:GIn w B g) (hBw:B≤w.heap.size) (hs:0≤g.sites∧g.sites≤8192) (hW:-9223372036854775808≤W∧W≤9223372036854775807) :
 Calls Tryz.prog 203 #[.agg #[g.rv,.int .i64 g.sites,g.bv],.int .i64 W] w (z3o B g W w):=by
 obtain⟨ro,rc,er,-,-⟩:=hI.rlies.form;obtain⟨bo,bc,eb,-,-⟩:=hI.blies.form;obtain⟨n,hn⟩:∃ n:Nat,g.sites=(n:Int):=⟨g.sites.toNat,by omega⟩
 have hG:=hI;obtain⟨rv,refs,sites,bv,blocks⟩:=g;simp only at *;subst hn er eb;have hmk:=uu n (by omega);generalize hNR:refs.length=NR at *;generalize hNB:blocks.length=NB at *;obtain⟨W1,hW1⟩:∃ W1,W1=w.alloc (.cells #[.slice ro NR rc,.int .i64 (n:Int),.slice bo NB bc] 75):=⟨_,rfl⟩
 have hb1:Below w.heap.size w W1:=by rw[hW1];exact ze w _
 have hz1:W1.heap.size=w.heap.size+1:=by rw[hW1];simp
 have hO:W1.heap[w.heap.size]? = some (.cells #[.slice ro NR rc,.int .i64 (n:Int),.slice bo NB bc] 75 (0,0)):=by rw[hW1];exact (MapKept.heap_alloc _ _).1
 obtain⟨p0,p1,p2⟩:=yl hO;have e5:=fun (b:Nat)=>zH 360 #[(0,.agg #[.slice ro NR rc,.int .i64 (n:Int),.slice bo NB bc]),(1,.int .i64 W),(2,.slice (some ⟨b,0,none⟩) n n)] #[.slice ro NR rc,.int .i64 (n:Int),.slice bo NB bc,.int .i64 W,.slice (some ⟨b,0,none⟩) n n] (by kernel_rfl)
 have HI:=hid hG;have HB:=hid hb1;have HW:=hid hW1;have HNN:=hid (And.intro hNR hNB);obtain⟨M,hM⟩:∃ M,M=((List.replicate n false).map Value.bool).toArray:=⟨_,rfl⟩
 rw[←hM]at hmk;have HM:=hid hM;clear hI hG hb1 hM hO hW1 hNR hNB;go_enter Tryz.func203,Tryz.ntmps203;go_wp2_with fail;rw[←HW.out];refine wp_region_held_drew (S:=zk (w.heap.size+1) W1) (by kernel_rfl) (zk.drew _ _) (fun hSw=>?_);refine tG 0 (.agg #[.slice ro NR rc,.int .i64 (n:Int),.slice bo NB bc]) hSw (fun W hW=>?_) ?_
 · have p0:=hW.cell (by dsimp only;omega) p0
   have p1:=hW.cell (by dsimp only;omega) p1;have p2:=hW.cell (by dsimp only;omega) p2
   first|(go_simp;done)|rfl
 (try simp only[nS]);refine tH 1 (.int .i64 W) hSw ?_;(try simp only[nS]);refine tH 2 (.pointer (some ⟨w.heap.size,1,none⟩)) hSw ?_;(try simp only[nS]);refine tG 3 (.int .i64 (n:Int)) hSw (fun W hW=>?_) ?_
 · have p1:=hW.cell (by dsimp only;omega) p1
   first|(go_simp;done)|rfl
 (try simp only[nS]);refine tR 4 (fun K hK=>?_);clear hSw;go_simp;refine hK.out _ _ (fun k hk=>(Below.heap_alloc _ _ _ (by show k<W1.heap.size;omega))) (fun hSw=>?_);clear hK K;(try simp only[nS]);refine tG 5 (.agg #[.slice ro NR rc,.int .i64 (n:Int),.slice bo NB bc,.int .i64 W,.slice (some ⟨W1.heap.size,0,none⟩) n n]) hSw (fun W hW=>?_) ?_
 · have e5x:=e5 W1.heap.size;first|(go_simp;done)|rfl
 (try simp only[nS]);refine tR 6 (fun K hK=>?_);clear hSw;go_simp;refine hK.out _ _ (fun k hk=>(Below.heap_alloc _ _ _ (by show k<((W1.drew).alloc _).heap.size;simp;omega)).trans (Below.heap_alloc _ _ _ (by show k<W1.heap.size;omega))) (fun hSw=>?_);clear hK K;(try simp only[nS]);refine tH 7 (.pointer (some ⟨W1.heap.size+1,0,none⟩)) hSw ?_;(try simp only[nS]);refine wpAnyH_done (by kernel_rfl) ?_ _;go_wp2_with fail;go_ret;have hs2:(W1.alloc (.cells M 4)).heap.size=W1.heap.size+1:=by simp
 have hbb:Below W1.heap.size W1 ((W1.alloc (.cells M 4)).alloc (.cells #[.slice ro NR rc,.int .i64 (n:Int),.slice bo NB bc,.int .i64 W,.slice (some ⟨w.heap.size+1,0,none⟩) n n] 360)).drew:=below_drewN ((ze W1 _).alloc (by simp) _) 1;have hbw:=HB.out.trans (hbb.mono (by omega));have hlen:(List.replicate (Int.toNat (n:Int)) false).length=n:=by simp
 refine⟨W1.heap.size+1,w.heap.size+1,rfl,⟨?_, ?_,HI.out.keeps (hbw.mono hBw),⟨by omega,by omega,by omega,Nat.le_trans hBw hbw.size⟩,hW,by rw[hlen];omega⟩,hbw,by omega,by omega⟩
 · have h:=(MapKept.heap_alloc (W1.alloc (.cells M 4)) (.cells #[.slice ro NR rc,.int .i64 (n:Int),.slice bo NB bc,.int .i64 W,.slice (some ⟨w.heap.size+1,0,none⟩) n n] 360)).1
   rw[hs2]at h;rw[hlen];exact h
 · have h:=(MapKept.heap_alloc W1 (.cells M 4)).1
   have h2:=Below.heap_alloc (W1.alloc (.cells M 4)) (.cells #[.slice ro NR rc,.int .i64 (n:Int),.slice bo NB bc,.int .i64 W,.slice (some ⟨w.heap.size+1,0,none⟩) n n] 360) W1.heap.size (by omega);have h3:=h2.trans h;rw[hz1]at h3;rw[show ((List.replicate (Int.toNat (n:Int)) false).map Value.bool).toArray=M from by rw[HM.out,Int.toNat_natCast]];exact h3
def vP:Option (Nat × Nat)→Value
 | none=>.tuple #[.agg #[.int .i64 0,.int .i64 0],.bool false]
 | some (n,k)=>.tuple #[.agg #[.int .i64 (n:Int),.int .i64 (k:Int)],.bool true]
theorem yw {fn:Func} {p u:Tmp} (h:fn.results=#[.cell p 92,.tmp u]) (tmps:Array Value) (w:World) (g:Nat) (a b x:Value) (hp:tmps.getD p undef = .pointer (some ⟨g,0,none⟩)) (hu:tmps.getD u undef=x) (hr:w.heap[g]? = some (.cells #[a,b] 92 (0,0))) :
 (results fn tmps).run Tryz.prog w = .ok (.tuple #[.agg #[a,b],x]) w:=by
 rw[←hu];have h2:=run_loadVar_row (P:=Tryz.prog) w g 92 92 #[a,b] (0,0) ((Tryz.prog.underlying 92).getD (.array 0 0)) hr (by kernel_rfl) (by kernel_rfl) (by kernel_rfl);rw[results_cell_tmp h,hp];show ((loadVar 92 ⟨g,0,none⟩).run Tryz.prog w).andThen _=_
 rw[h2]
 rfl
theorem y9 {w:World} {b:Nat} {T:TypeId} {fr:Nat × Nat} {x y:Value} (h:w.heap[b]? = some (.cells #[x,y] T fr)) (u v:Value):((w.setCell ⟨b,0,none⟩ u).setCell ⟨b,1,none⟩ v).heap[b]? = some (.cells #[u,v] T fr):=by
 rw[qQ (qQ h 0 u) 1 v];rfl
theorem Aside.fresh {m:Nat} {a b:World} (h:Aside m a b) (p:Addr) (v:Value) (hp:a.heap.size≤p.block):Aside m a (b.setCell p v):=
 ⟨h.os,h.tape,h.output,by have:=h.size;simpa[World.setCell]using this,fun k hk hm=>(Below.heap_setCell _ _ _ _ (by omega)).trans (h.block k hk hm)⟩
theorem Aside.cells {m:Nat} {a b:World} (h:Aside m a b) {k:Nat} {o:Obj} (hk:a.heap[k]? = some o) (hm:k≠m):b.heap[k]? = some o:=(h.block k (Array.getElem?_eq_some_iff.1 hk).1 hm).trans hk
def Uz (R:List Bool) (W:Int) (nb n:Nat) (b:Bk) (l:List Bk):Option Nat × List Bool→Option (Nat × Nat)
 | (some k,_)=>some (n,k)
 | (none,M')=>if lastB R nb b=true then yz R W nb (n+1) M' l else some (n,b.ins.length)
theorem YC (R:List Bool) (W:Int) (nb n:Nat) (M:List Bool) (b:Bk) (l:List Bk) {Z:Option Nat × List Bool} (hZ:xH R W 0 M b.ins=Z):yz R W nb n M (b :: l)=Uz R W nb n b l Z:=by
 subst hZ;rw[yz];generalize xH R W 0 M b.ins=Z;obtain⟨x,y⟩:=Z;cases x <;> rfl
theorem Yz {R:List Bool} {W:Int} {k:Nat} {M:List Bool} {i:In} {l:List In} (h:yK R W M i=true):xH R W k M (i :: l)=xH R W (k+1) (wY R W M i) l:=by
 rw[Yj h,xH,if_pos h]
theorem YA {R:List Bool} {W:Int} {k:Nat} {M:List Bool} {i:In} {l:List In} (h:yK R W M i=false):xH R W k M (i :: l)=(some k,M):=by
 rw[xH,if_neg (by rw[h];exact Bool.false_ne_true)]
structure q9 (w:World) (B c m:Nat) (g:Gr) (W:Int) (M:List Bool) (wr:World):Prop where
 ck:zP wr B c m g W M
 aside:Aside m w wr
 own:wr.heap[w.heap.size]? = some (.cells #[.int .i64 0,.int .i64 0] 92 (0,0))
theorem q9.step {w:World} {B c m:Nat} {g:Gr} {W:Int} {M M':List Bool} {wr wr':World} (h:q9 w B c m g W M wr) (hm:m<w.heap.size) (h1:zP wr' B c m g W M') (h2:Aside m wr wr'):q9 w B c m g W M' wr':=
 ⟨h1,h.aside.trans h2,h2.cells h.own (by omega)⟩
theorem q9.below {w:World} {B c m:Nat} {g:Gr} {W:Int} {M:List Bool} {wr wr':World} (h:q9 w B c m g W M wr) (hm:m<w.heap.size) (h2:Below wr.heap.size wr wr'):q9 w B c m g W M wr':=h.step hm (h.ck.keeps h2) (Aside.of h2)
def FwE (m:Nat) (Y:Option (Nat × Nat)) (w:World) (e:Ending) (w':World):Prop:=e = .returned (vP Y)∧Aside m w w'
theorem UA (B c m:Nat) (g:Gr) (W:Int) (M:List Bool) (w:World) (h:zP w B c m g W M) :
 Calls Tryz.prog 204 #[.pointer (some ⟨c,0,none⟩)] w (FwE m (yz g.refs W g.blocks.length 0 M g.blocks) w):=by
 obtain⟨Y,hY⟩:∃ Y,Y=yz g.refs W g.blocks.length 0 M g.blocks:=⟨_,rfl⟩
 rw[←hY];obtain⟨bo,bcap,eb,hlen,hbg⟩:=h.here.blies.form;have hroom:=h.here.blies.room;have hlm:=h.lt.2;have hlc:=h.lt.1;have hbase:=h.base;have hq:=h.box;have HBL:=hid (fun (u:World) (M':List Bool) (hu:zP u B c m g W M')=>hu.here.blies);have HBI:=hid (fun (u:World) (M':List Bool) (hu:zP u B c m g W M')=>hu.here.blocks);rw[eb]at hq HBL;obtain⟨NB,hNB⟩:∃ N,N=g.blocks.length:=⟨_,rfl⟩
 rw[←hNB]at hq hlen hbg hroom hY HBL;obtain⟨q0,q1,q2,q3,q4⟩:=zx hq;have HS:=hid (show q9 w B c m g W M (w.alloc (.cells #[.int .i64 0,.int .i64 0] 92))from⟨h.keeps (ze w _),Aside.of (ze w _),(MapKept.heap_alloc _ _).1⟩);have HBG:=hid hbg;have HN:=hid hNB;have HY:=hid hY;have HIA:=hid (fun (M':List Bool) (i:In) (u:World) (hu:zP u B c m g W M')=>Kb B c m g W M' i u hu);have HLA:=hid (fun (M':List Bool) (b:Bk) (u:World) (hu:zP u B c m g W M') (hv:∃ ao n cap,b.iv = .slice ao n cap)=>JR B c m g W M' b u hu hv);have e0:=fun (x y:Int)=>zH 92 #[(0,.int .i64 x),(1,.int .i64 y)] #[.int .i64 x,.int .i64 y] (by kernel_rfl)
 have e1:=zH 92 #[] #[.int .i64 0,.int .i64 0] (by kernel_rfl);clear h hq hbg hNB hY eb;go_enter Tryz.func204,Tryz.ntmps204;go_wp2_with fail
 go_loopw [14] (fun q wr=>∃ (p:Nat) (M1:List Bool),p≤NB∧q = .int .i64 p∧q9 w B c m g W M1 wr∧Hid (yz g.refs W NB p M1 (g.blocks.drop p)=Y)) (fun q _=>NB - (intOf q).toNat)
 case atStart=>exact⟨0,M,Nat.zero_le _,rfl,HS.out,hid HY.out.symm⟩
 case round =>
  obtain⟨p,M1,hp,rfl,hF,hD⟩:=hrel
  rename World=>U
  have HF:=hid hF
  by_cases hlt:p<NB
  · have hpx:p<g.blocks.length:=by rw[←HN.out];exact hlt
    obtain⟨g0,off,rfl,hg0⟩:=HBG.out (by omega);have hat:=((HBL.out U M1 hF.ck).at rfl p hpx).2;have hbi:=HBI.out U M1 hF.ck _ (List.getElem_mem hpx);have hd:=hD.out;rw[List.drop_eq_getElem_cons hpx]at hd;generalize hbb:g.blocks[p]=b at hat hbi hd;have HBB:=hid (fun (u:World) (M':List Bool) (hu:zP u B c m g W M')=>hbb ▸ HBI.out u M' hu _ (List.getElem_mem hpx));obtain⟨Z,hZ⟩:∃ Z,xH g.refs W 0 M1 b.ins=Z:=⟨_,rfl⟩
    rw[YC _ _ _ _ _ _ _ hZ]at hd;have HD:=hid hd;have HZ:=hid hZ;obtain⟨io,icap,eiv,hilen,hig⟩:=hbi.lies.form;have hiroom:=hbi.lies.room;have HV:=hid (show ∃ ao n cap,b.iv = .slice ao n cap from⟨_,_,_,eiv⟩);have HLB:=hid (fun (M':List Bool) (u:World) (hu:zP u B c m g W M')=>HLA.out M' b u hu HV.out);have HEV:=hid eiv;obtain⟨n,hn⟩:∃ n,n=b.ins.length:=⟨_,rfl⟩
    rw[←hn]at eiv hilen hig hiroom;obtain⟨p0,p1,p2,p3,p4⟩:=bc hat;rw[eiv]at p0 HLB;have HNN:=hid hn;have HIG:=hid hig;have hgU:g0<U.heap.size:=by have:=hF.ck.base.2.2.2;omega
    have hzU:=hF.aside.size;have HFB:=hid (hF.below hlm (ze U (.cells #[.slice io n icap,.int .u8 b.last,.int .i64 b.reg,.int .i64 b.yes,.int .i64 b.no] 118)));have HBX:=hid (show (U.alloc (.cells #[.slice io n icap,.int .u8 b.last,.int .i64 b.reg,.int .i64 b.yes,.int .i64 b.no] 118)).heap[U.heap.size]? = some (.cells #[.slice io n icap,.int .u8 b.last,.int .i64 b.reg,.int .i64 b.yes,.int .i64 b.no] 118 (0,0))from (MapKept.heap_alloc _ _).1);clear hF hD hat hbi hd hbb hZ hn hig eiv;go_wp2_with fail
    go_loopw [22] (fun q wr=>∃ (k:Nat) (M2:List Bool),k≤n∧q = .int .i64 k∧q9 w B c m g W M2 wr∧wr.heap[U.heap.size]? = some (.cells #[.slice io n icap,.int .u8 b.last,.int .i64 b.reg,.int .i64 b.yes,.int .i64 b.no] 118 (0,0))∧Hid (xH g.refs W k M2 (b.ins.drop k)=Z)) (fun q _=>n - (intOf q).toNat)
    case atStart=>exact⟨0,M1,Nat.zero_le _,rfl,HFB.out,HBX.out,hid HZ.out⟩
    case round =>
     obtain⟨k,M2,hk,rfl,hF2,hX2,hD2⟩:=hrel;have HF2:=hid hF2;have HX2:=hid hX2;have hlU:U.heap.size<wr.heap.size:=(Array.getElem?_eq_some_iff.1 hX2).1;have f0:=Lib.frozen_of_heap hF2.own 0;have f1:=Lib.frozen_of_heap hF2.own 1
     by_cases hlk:k<n
     · have hkx:k<b.ins.length:=by rw[←HNN.out];exact hlk
       obtain⟨gi,offi,rfl,hgi⟩:=HIG.out (by omega);have hati:=((HBB.out wr M2 hF2.ck).lies.at HEV.out k hkx).2;have hd2:=hD2.out;rw[List.drop_eq_getElem_cons hkx]at hd2;generalize b.ins[k]=i at hati hd2;obtain⟨i0,i1,i2,i3,i4,i5⟩:=ic hati;have hgiw:gi<wr.heap.size:=by have:=hF2.ck.base.2.2.2;omega
       obtain⟨W2,hW2⟩:∃ W2,W2=wr.alloc (.cells #[.int .u8 i.k,.int .u8 i.o,.int .i64 i.a,.int .i64 i.b,.int .i64 i.c,.int .i64 i.n] 159):=⟨_,rfl⟩
       have hb2:Below wr.heap.size wr W2:=by rw[hW2];exact ze wr _
       have hF3:=hF2.below hlm hb2;have HC:=hid (HIA.out M2 i W2 hF3.ck);have HF3:=hid hF3;have HX3:=hid ((hb2.block _ hlU).trans hX2);have HW2:=hid hW2;have HD2:=hid hd2;clear hF2 hX2 hati hd2 hb2 hF3 hD2 f0 f1 hW2;go_wp2_with fail;rw[←HW2.out];refine HC.out.mono ?_;rintro e w5 ⟨rfl,hc5,ha5⟩;have hF5:=HF3.out.step hlm hc5 ha5;have HF5:=hid hF5;have HX5:=hid (ha5.cells HX3.out (by omega));have f0:=Lib.frozen_of_heap hF5.own 0;have f1:=Lib.frozen_of_heap hF5.own 1;have hl5:w.heap.size<w5.heap.size:=(Array.getElem?_eq_some_iff.1 hF5.own).1;obtain⟨s0,s1⟩:=zt hF5.own;clear hc5 ha5 hF5;cases hib:yK g.refs W M2 i with
       | true =>
        have HZ2:=hid ((Yz hib).symm.trans HD2.out);clear f0 f1 hib;go_wp2_with fail;go_roundw
        case rel=>exact⟨k+1,_,hlk,by go_num,HF5.out,HX5.out,HZ2⟩
        case measure=>simp[intOf];omega
       | false =>
        have HZ2:=hid ((YA hib).symm.trans HD2.out);have HYY:=hid (show Y=some (p,k)by rw[←HD.out,←HZ2.out];rfl);clear hib;go_wp2_with fail;refine bodyPost_ret (v:=.tuple #[.agg #[.int .i64 (p:Int),.int .i64 (k:Int)],.bool true]) (yw (p:=2) (u:=3) rfl _ _ w.heap.size _ _ _ rfl rfl (y9 HF5.out.own _ _)) rfl ?_;exact⟨by rw[HYY.out];rfl,(HF5.out.aside.fresh _ _ (Nat.le_refl _)).fresh _ _ (Nat.le_refl _)⟩
     · have hz:=hD2.out
       rw[List.drop_eq_nil_of_le (by rw[←HNN.out];omega)]at hz;have hdd:=HD.out;rw[←hz]at hdd;have hdd2:(if lastB g.refs NB b=true then yz g.refs W NB (p+1) M2 (g.blocks.drop (p+1)) else some (p,b.ins.length))=Y:=hdd;have HDD:=hid hdd2;have HC:=hid (HLB.out M2 wr hF2.ck);obtain⟨x0,x1,x2,x3,x4⟩:=zx hX2;have hlw:w.heap.size<wr.heap.size:=(Array.getElem?_eq_some_iff.1 hF2.own).1;clear hF2 hX2 hD2 hz hdd hdd2 f0 f1;go_wp2_with fail;refine HC.out.mono ?_;rintro e w5 ⟨rfl,hb5⟩;have hF5:=HF2.out.below hlm hb5;have HF5:=hid hF5;have f0:=Lib.frozen_of_heap hF5.own 0;have f1:=Lib.frozen_of_heap hF5.own 1;have hl5:w.heap.size<w5.heap.size:=(Array.getElem?_eq_some_iff.1 hF5.own).1;obtain⟨s0,s1⟩:=zt hF5.own;obtain⟨x0,x1,x2,x3,x4⟩:=zx ((hb5.block _ hlU).trans HX2.out);have hlU5:U.heap.size<w5.heap.size:=by have:=hb5.size;omega
       rw[←HN.out];clear hb5 hF5;cases hlb:lastB g.refs NB b with
       | true =>
        have HZ2:=hid (show yz g.refs W NB (p+1) M2 (g.blocks.drop (p+1))=Y by rw[←HDD.out,if_pos hlb]);clear f0 f1 hlb;go_wp2_with fail;go_roundw
        case rel=>exact⟨p+1,M2,hlt,by go_num,HF5.out,HZ2⟩
        case measure=>simp[intOf];omega
       | false =>
        have HYY:=hid (show Y=some (p,n)by rw[←HDD.out,if_neg (by rw[hlb];exact Bool.false_ne_true),HNN.out]);clear hlb;go_wp2_with fail;refine bodyPost_ret (v:=.tuple #[.agg #[.int .i64 (p:Int),.int .i64 (n:Int)],.bool true]) (yw (p:=2) (u:=3) rfl _ _ w.heap.size _ _ _ rfl rfl (y9 HF5.out.own _ _)) rfl ?_;exact⟨by rw[HYY.out];rfl,(HF5.out.aside.fresh _ _ (Nat.le_refl _)).fresh _ _ (Nat.le_refl _)⟩
  · have hz:=hD.out
    rw[List.drop_eq_nil_of_le (by rw[←HN.out];omega)]at hz;have HYY:=hid (show Y=none from hz.symm);have f0:=Lib.frozen_of_heap hF.own 0;have f1:=Lib.frozen_of_heap hF.own 1;have hl5:w.heap.size<U.heap.size:=(Array.getElem?_eq_some_iff.1 hF.own).1;obtain⟨s0,s1⟩:=zt hF.own;clear hF hD hz;go_wp2_with fail;refine bodyPost_ret (v:=.tuple #[.agg #[.int .i64 0,.int .i64 0],.bool false]) (yw (p:=2) (u:=3) rfl _ _ w.heap.size _ _ _ rfl rfl (y9 HF.out.own _ _)) rfl ?_;exact⟨by rw[HYY.out];rfl,(HF.out.aside.fresh _ _ (Nat.le_refl _)).fresh _ _ (Nat.le_refl _)⟩
theorem z1p (k:Nat) (s:Nat) (l:List Nat):yZ k (s :: l)=if s=3 then some k else yZ (k+1) l:=rfl
theorem Zb {w:World} {g:Nat} {l:List Nat} {T:TypeId} {fr:Nat × Nat} (h:w.heap[g]? = some (.cells (l.map fun (s:Nat)=>Value.int .u8 (s:Int)).toArray T fr)) (k:Nat) (hk:k<l.length):w.cell? ⟨g,k,none⟩ = some (.int .u8 ((l[k]:Nat):Int)):=by
 rw[Lib.cell_of_heap h];simp[hk]
theorem UB (g n:Nat) (l:List Nat) (T:TypeId) (fr:Nat × Nat) (w:World) (hg:w.heap[g]? = some (.cells (l.map fun (s:Nat)=>Value.int .u8 (s:Int)).toArray T fr)) (hn:n=l.length) (hn2:n≤4096) :
 Calls Tryz.prog 206 #[.slice (some ⟨g,0,none⟩) n n] w fun e w'=>e = .returned (vP ((yZ 0 l).map fun k=>(k,0)))∧Below w.heap.size w w':=by
 obtain⟨Y,hY⟩:∃ Y,Y=yZ 0 l:=⟨_,rfl⟩
 rw[←hY];have HY:=hid hY;have HN:=hid hn;have hgs:g<w.heap.size:=(Array.getElem?_eq_some_iff.1 hg).1;obtain⟨W0,hW0⟩:∃ W0,W0=w.alloc (.cells #[.int .i64 0,.int .i64 0] 92):=⟨_,rfl⟩
 have hB0:Below w.heap.size w W0:=by rw[hW0];exact ze w _
 have hO:W0.heap[w.heap.size]? = some (.cells #[.int .i64 0,.int .i64 0] 92 (0,0)):=by rw[hW0];exact (MapKept.heap_alloc _ _).1
 have hsz:w.heap.size<W0.heap.size:=by rw[hW0];simp
 have HG:=hid ((hB0.block g hgs).trans hg);have e0:=fun (x:Int)=>zH 92 #[(0,.int .i64 x)] #[.int .i64 x,.int .i64 0] (by kernel_rfl)
 have e1:=zH 92 #[] #[.int .i64 0,.int .i64 0] (by kernel_rfl);have f0:=Lib.frozen_of_heap hO 0;have f1:=Lib.frozen_of_heap hO 1;obtain⟨s0,s1⟩:=zt hO;have HO:=hid hO;have HB0:=hid hB0;have HW0:=hid hW0;clear hY hn hB0 hO hW0 hg;go_enter Tryz.func206,Tryz.ntmps206;go_wp2_with fail;rw[←HW0.out]
 go_loopw [8] (fun q wr=>∃ k:Nat,k≤n∧q = .int .i64 k∧wr=W0∧Hid (Y=yZ k (l.drop k))) (fun q _=>n - (intOf q).toNat)
 case atStart=>exact⟨0,by omega,rfl,rfl,HY⟩
 case round =>
  obtain⟨k,hkN,rfl,rfl,HD⟩:=hrel
  by_cases hlt2:k<n
  · have hka:k<l.length:=by rw[←HN.out];exact hlt2
    have hd:=HD.out;rw[List.drop_eq_getElem_cons hka,z1p]at hd;have p0:=Zb HG.out k hka;generalize l[k]=s at hd p0
    by_cases hs:s=3
    · subst hs
      rw[if_pos rfl]at hd;have HD2:=hid hd;clear hd HD hka;go_wp2_with fail;refine bodyPost_ret (v:=.tuple #[.agg #[.int .i64 (k:Int),.int .i64 0],.bool true]) (yw (p:=2) (u:=3) rfl _ _ w.heap.size _ _ _ rfl rfl (y9 HO.out _ _)) rfl ?_;exact⟨by rw[HD2.out];rfl,(HB0.out.setCell (Nat.le_refl _) _).setCell (Nat.le_refl _) _⟩
    · rw[if_neg hs]at hd
      have HD2:=hid hd;have hs2:(((s:Nat):Int)==3)=false:=by simp only[beq_eq_false_iff_ne,ne_eq];omega
      clear hd HD hka hs;go_wp2_with fail;go_roundw
      case rel=>exact⟨k+1,by omega,by go_num,by trivial,HD2⟩
      case measure=>simp[intOf];omega
  · have hd:=HD.out
    rw[List.drop_eq_nil_of_le (by rw[←HN.out];omega)]at hd;have HD2:=hid (show Y=none from hd);clear hd HD;go_wp2_with fail;refine bodyPost_ret (v:=.tuple #[.agg #[.int .i64 0,.int .i64 0],.bool false]) (yw (p:=2) (u:=3) rfl _ _ w.heap.size _ _ _ rfl rfl (y9 HO.out _ _)) rfl ?_;exact⟨by rw[HD2.out];rfl,(HB0.out.setCell (Nat.le_refl _) _).setCell (Nat.le_refl _) _⟩
