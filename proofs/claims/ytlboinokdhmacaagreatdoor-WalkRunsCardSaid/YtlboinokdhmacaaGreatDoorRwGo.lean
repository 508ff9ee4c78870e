import Derived.Test.YtlboinokdhmacaaGreatDoorRwNext
namespace Go.Proofs.YtlboinokdhmacaaGreatDoor
set_option maxHeartbeats 64000000
set_option maxRecDepth 1000000
open Lib(hid)
section
open Go.RowKit
attribute [local go_sem ↓] zL zJ
theorem QT.putOut {ow ow':Nat→Nat} {w w8:World} {tb o j:Nat} {T:RT} {rs ws os u:Value} {l:List Int} (h:QT ow w tb o j T rs ws os) (hb:But ow [12+8*j] w w8) (he:Ext ow ow' w) (ht:zI ow' w8 (12+8*j) u l) :
 QT ow' (w8.setCell ⟨tb,o+4,none⟩ u) tb o j { T with out:=l } rs ws u∧But ow' [3] w8 (w8.setCell ⟨tb,o+4,none⟩ u)∧TbK tb o w (w8.setCell ⟨tb,o+4,none⟩ u):=by
 obtain⟨cur,hc,r0,r1,r2,r3,r4,r5⟩:=h.row;have hc8:=(hb.block tb (z8 hc) (by rw[h.lab];simp;omega)).trans hc;have hl8:ow' tb=3:=by rw[he tb (z8 hc)];exact h.lab
 have hs:But ow' [3] w8 _:=xX ⟨tb,o+4,none⟩ u hl8
 exact⟨⟨⟨_,heap_setCell_same w8 tb (o+4) _ _ _ hc8,yu (k:=0) r0,yu (k:=1) r1,yu (k:=2) r2,yu (k:=3) r3,yu (k:=4) r4,yu (k:=5) r5⟩,hl8,vU (vU h.regs hb he (by simp)) hs (.refl _ _) (by simp;omega),(h.wait.keeps hb he (by simp)).keeps hs (.refl _ _) (by simp;omega),ht.keeps hs (.refl _ _) (by simp;omega)⟩,hs,
  cur,_,hc,heap_setCell_same w8 tb (o+4) _ _ _ hc8,by simp,fun k hk=>by rw[Array.getElem?_setIfInBounds,if_neg (by omega)]⟩
theorem QT.putWait {ow ow':Nat→Nat} {w w8:World} {tb o j:Nat} {T:RT} {rs ws os u:Value} {l:List Int} (h:QT ow w tb o j T rs ws os) (hb:But ow [11+8*j] w w8) (he:Ext ow ow' w) (ht:zI ow' w8 (11+8*j) u l) :
 QT ow' (w8.setCell ⟨tb,o+3,none⟩ u) tb o j { T with wait:=l } rs u os∧But ow' [3] w8 (w8.setCell ⟨tb,o+3,none⟩ u)∧TbK tb o w (w8.setCell ⟨tb,o+3,none⟩ u):=by
 obtain⟨cur,hc,r0,r1,r2,r3,r4,r5⟩:=h.row;have hc8:=(hb.block tb (z8 hc) (by rw[h.lab];simp;omega)).trans hc;have hl8:ow' tb=3:=by rw[he tb (z8 hc)];exact h.lab
 have hs:But ow' [3] w8 _:=xX ⟨tb,o+3,none⟩ u hl8
 exact⟨⟨⟨_,heap_setCell_same w8 tb (o+3) _ _ _ hc8,yu (k:=0) r0,yu (k:=1) r1,yu (k:=2) r2,yu (k:=3) r3,yu (k:=4) r4,yu (k:=5) r5⟩,hl8,vU (vU h.regs hb he (by simp)) hs (.refl _ _) (by simp;omega),ht.keeps hs (.refl _ _) (by simp;omega),(h.out.keeps hb he (by simp)).keeps hs (.refl _ _) (by simp;omega)⟩,hs,
  cur,_,hc,heap_setCell_same w8 tb (o+3) _ _ _ hc8,by simp,fun k hk=>by rw[Array.getElem?_setIfInBounds,if_neg (by omega)]⟩
structure kK (ow:Nat→Nat) (w:World) (B b:Nat) (wd:Int) (tv tw:Value) (tb j:Nat) (rs ws os:Value) (n:Nat) (W:WS) (T:RT) (v:Value) (g:Gr) (NT tc gt goff NG gc:Nat):Prop where
 qw:QW ow w b wd tv tw W (n:Int) v
 qt:QT ow w tb (j*6) j T rs ws os
 etw:tw = .slice (some ⟨tb,0,none⟩) NT tc
 jT:j<NT
 etv:tv = .slice (some ⟨gt,goff,none⟩) NG gc
 jG:j<NG
 gtB:gt<B
 g0:w.cell? ⟨gt,goff+j*3,none⟩ = some g.rv
 g1:w.cell? ⟨gt,goff+j*3+1,none⟩ = some (.int .i64 g.sites)
 g2:w.cell? ⟨gt,goff+j*3+2,none⟩ = some g.bv
 gi:GIn w B g
 base:B≤w.heap.size
 low:∀ k,k<B→ow k=0
 new:∀ k,w.heap.size≤k→ow k=0
 lw:T.wait.length≤1048576
 lo:T.out.length≤1048576
 clean:∀ k,ow k≠4∧ow k≠5∧ow k≠6
def QLp (ow:Nat→Nat) (b:Nat) (wd:Int) (tv tw:Value) (tb j:Nat) (rs:Value) (r:Nat × WS × RT × Bool) (w:World) (e:Ending) (w':World):Prop:=
 e = .returned (.bool r.2.2.2)∧∃ ow' v' ws' os' n',(r.2.2.2=true→n'=(r.1:Int))∧Ext ow ow' w∧QW ow' w' b wd tv tw r.2.1 n' v'∧QT ow' w' tb (j*6) j r.2.2.1 rs ws' os'∧But ow [1,2,3,4,5,6,10+8*j,11+8*j,12+8*j] w w'∧TbK tb (j*6) w w'∧(r.2.2.2=false→But ow [1,2,3,4,5,6,10+8*j] w w')
theorem Vi {ow:Nat→Nat} {w:World} {B b:Nat} {wd:Int} {tv tw:Value} {tb j:Nat} {rs ws os:Value} {n:Nat} {W:WS} {T:RT} {v:Value} {g:Gr} {NT tc gt goff NG gc:Nat} (h:kK ow w B b wd tv tw tb j rs ws os n W T v g NT tc gt goff NG gc) {x:Int} {r:List Int} (hwt:T.wait=x :: r) :
 Calls Tryz.prog 27 #[.pointer (some ⟨b,0,none⟩),.int .i64 (j:Int)] w (QLp ow b wd tv tw tb j rs (n,W,{ T with out:=T.out++[x],wait:=r },true) w):=by
 obtain⟨ro,NR,rc,hrv⟩:∃ ro NR rc,g.rv = .slice ro NR rc:=by obtain⟨ao,cap,e,-⟩:=h.gi.rlies;exact⟨_,_,_,e⟩
 obtain⟨bo,NB,bc,hbv⟩:∃ ro NR rc,g.bv = .slice ro NR rc:=by obtain⟨ao,cap,e,-⟩:=h.gi.blies;exact⟨_,_,_,e⟩
 have etw:=h.etw;have etv:=h.etv;subst etw etv;have g0:=h.g0;have g1:=h.g1;have g2:=h.g2;rw[hrv]at g0;rw[hbv]at g2;obtain⟨sites,hsi⟩:∃ s,s=g.sites:=⟨_,rfl⟩
 rw[←hsi]at g1;have hjT:=h.jT;have hjG:=h.jG;have hgt:gt<w.heap.size:=Nat.lt_of_lt_of_le h.gtB h.base;have k0:=zh h.qw.box 0 _ rfl;have k1:=zh h.qw.box 1 _ rfl;have k3:=zh h.qw.box 3 _ rfl;have hlb:=z8 h.qw.box;obtain⟨htb,-,-,-,d3,d4,-⟩:=h.qt.cells;obtain⟨tp,oc,hts⟩:=h.qt.out.form';have hwa:=h.qt.wait;rw[hwt]at hwa;obtain⟨wg,off,cap,rfl,hc1,hc2,hwg,hlw,hcell,hcut⟩:=hwa.cons;obtain⟨V1,hV1⟩:∃ V1,V1=w.alloc (.cells #[.slice ro NR rc,.int .i64 sites,.slice bo NB bc] 75):=⟨_,rfl⟩
 have hb1:Below w.heap.size w V1:=by rw[hV1];exact ze w _
 obtain⟨V2,hV2⟩:∃ V2,V2=V1.drew:=⟨_,rfl⟩
 have hb2:Below w.heap.size w V2:=hb1.trans ((db hV2).mono hb1.size);obtain⟨V3,hV3⟩:∃ V3,V3=V2.alloc (.cells #[.int .i64 x] 2):=⟨_,rfl⟩
 have hb3:Below w.heap.size w V3:=hb2.trans ((show Below V2.heap.size V2 V3 from by rw[hV3];exact ze V2 _).mono hb2.size);have hB3:But ow ([]:List Nat) w V3:=But.of hb3;have hq3:=h.qw.keeps hB3 (.refl _ _) (by simp) (by simp);have ht3:=h.qt.keeps hB3 (.refl _ _) (by simp) (by simp) (by simp) (by simp);obtain⟨v',w8,hrun,⟨q2,c2,ev'⟩,ow',hext,htail,hbut⟩:=jU ow V3 (12+8*j) os T.out x 85 V2.heap.size ht3.out (by rw[hV3];exact (MapKept.heap_alloc V2 _).1) h.lo;obtain⟨NO,hNO⟩:∃ N,N=T.out.length:=⟨_,rfl⟩
 rw[←hNO]at ev' hts;subst ev';rw[hts,hV3]at hrun;rw[hts]at d4;obtain⟨p1,p2,p3⟩:=ht3.putOut hbut hext htail;have hq8:=hq3.keeps hbut hext (by simp;omega) (by simp;omega);have hq9:=hq8.keeps p2 (.refl _ _) (by simp) (by simp);obtain⟨W9,hW9⟩:∃ W9,W9=w8.setCell ⟨tb,j*6+4,none⟩ (.slice q2 (NO+1) c2):=⟨_,rfl⟩
 rw[←hW9]at p1 p2 p3 hq9;obtain⟨NW,hNW⟩:∃ N,N=r.length:=⟨_,rfl⟩
 have hwl:NW+1≤1048576:=by have:=h.lw;rw[hwt,List.length_cons]at this;omega
 have hwg3:wg<V3.heap.size:=Nat.lt_of_lt_of_le hwg hb3.size;have hwk:W9.heap[wg]? = w.heap[wg]?:=(p2.block wg (Nat.lt_of_lt_of_le hwg3 hbut.size) (by rw[hext wg hwg3,hlw];simp;omega)).trans ((hbut.block wg hwg3 (by rw[hlw];simp)).trans (hb3.block wg hwg));have htl:=hcut ow' W9 hwk (by rw[hext wg hwg3];exact hlw);rw[←hNW]at htl hc1;obtain⟨nv,hnv⟩:∃ nv,nv=Value.slice (if cap=1 then some ⟨wg,off,none⟩ else some ⟨wg,off+1,none⟩) NW (cap - 1):=⟨_,rfl⟩
 rw[←hnv]at htl;obtain⟨z1,z2,z3⟩:=p1.putWait (But.of (ls:=[11+8*j]) (Below.refl _ _)) (.refl _ _) htl;have hB8:But ow [1,2,3,4,5,6,10+8*j,11+8*j,12+8*j] w w8:=zw (zi hB3 (by simp)) (zi hbut (by simp));have hl3:ow tb=3:=h.qt.lab
 have HFIN:=hid (show QLp ow b wd (.slice (some ⟨gt,goff,none⟩) NG gc) (.slice (some ⟨tb,0,none⟩) NT tc) tb j rs (n,W,{ T with out:=T.out++[x],wait:=r },true) w (.returned (.bool true)) (W9.setCell ⟨tb,j*6+3,none⟩ nv)from
  ⟨rfl,ow',v,nv,_,(n:Int),fun _=>rfl,fun k hk=>hext k (Nat.lt_of_lt_of_le hk hb3.size),hq9.keeps z2 (.refl _ _) (by simp) (by simp),z1,by rw[hW9];exact (hB8.set (p:=⟨tb,j*6+4,none⟩) (by simp[hl3]) _).set (p:=⟨tb,j*6+3,none⟩) (by simp[hl3]) _,((TbK.of_but h.qt.row.choose_spec.1 hl3 hB3 (by simp)).trans p3).trans z3,fun q=>by simp at q⟩)
 obtain⟨-,-,-,-,d3',-,-⟩:=p1.cells;have f3:=p1.frozen (j*6+3);have htb9:=p1.cells.1;rw[←hNW]at d3 d3';have HRUN:=hid hrun;have HNV:=hid hnv;have HW9:=hid hW9;have HV1:=hid hV1;have HV2:=hid hV2
 have hx8:w8.cell? ⟨tb,j*6+4,none⟩ = some os∧w8.frozen? ⟨tb,j*6+4,none⟩ = false∧tb<w8.heap.size:=by
  obtain⟨cur,hc,r0,r1,r2,r3,r4,r5⟩:=ht3.row;have hc8:=(hbut.block tb (z8 hc) (by rw[hl3];simp;omega)).trans hc;exact⟨zh hc8 _ _ r4,Lib.frozen_of_heap hc8 _,z8 hc8⟩
 obtain⟨e8,f8,l8⟩:=hx8;rw[hts]at e8;have h2s:w.heap.size≤V2.heap.size:=hb2.size
 have HS3:=hid (show ∀ k,(k=tb∨k=wg)→(V2.alloc (.cells #[.int .i64 x] 2)).heap[k]? = V1.heap[k]? from fun k hk=>by
  have hkw:k<w.heap.size:=by rcases hk with h|h <;> rw[h] <;> assumption
  rw[←hV3];exact (hb3.block k hkw).trans (hb1.block k hkw).symm)
 have HS8:=hid (show ∀ k,(k=tb∨k=wg)→w8.heap[k]? = V1.heap[k]? from fun k hk=>by
  have hkw:k<w.heap.size:=by rcases hk with h|h <;> rw[h] <;> assumption
  refine (hbut.block k (Nat.lt_of_lt_of_le hkw hb3.size) ?_).trans ((hb3.block k hkw).trans (hb1.block k hkw).symm);rcases hk with rfl|rfl
  · rw[hl3];simp;omega
  · rw[hlw];simp)
 have d3v:=(hb1.cell (p:=⟨tb,j*6+3,none⟩) htb).trans d3;have d4v:=(hb1.cell (p:=⟨tb,j*6+4,none⟩) htb).trans d4;have hcv:=(hb1.cell (p:=⟨wg,off,none⟩) hwg).trans hcell;have htb1:=Nat.lt_of_lt_of_le htb hb1.size;have hwg1:=Nat.lt_of_lt_of_le hwg hb1.size;have e3:=jA;clear h hwt hrv hbv hsi hwa hcut hV1 hb1 hV2 hb2 hV3 hb3 hB3 hq3 ht3 hrun hext htail hbut hNO hts p1 p2 p3 hq8 hq9 hW9 hNW hwk htl hnv z1 z2 z3 hB8 hlw hwg3 d4;go_enter Tryz.func27,Tryz.ntmps27;go_wp2_with fail;rw[←HV1.out];refine yO (S:=zn (fun k=>k=tb∨k=wg) V1) (fun j=>decide (13≤j)) (by kernel_rfl) (zn.drew _ _) (fun hSw=>?_);rw[←HV2.out];rw[←HV2.out]at hSw;refine lH 0 (.pointer (some ⟨tb,j*6,none⟩)) hSw ?_;(try simp only[nS]);refine lH 1 (.pointer (some ⟨tb,j*6,none⟩)) hSw ?_;(try simp only[nS]);refine lH 2 (.pointer (some ⟨tb,j*6,none⟩)) hSw ?_;(try simp only[nS]);refine lH 3 (.pointer (some ⟨tb,j*6+4,none⟩)) hSw ?_;(try simp only[nS]);refine lG 4 (.slice tp NO oc) hSw (fun W hW=>?_) ?_
 · have d4v:=hW.cell (by dsimp only;omega) d4v
   first|(go_simp;done)|rfl
 (try simp only[nS]);refine lH 5 (.pointer (some ⟨tb,j*6,none⟩)) hSw ?_;(try simp only[nS]);refine lH 6 (.pointer (some ⟨tb,j*6,none⟩)) hSw ?_;(try simp only[nS]);refine lH 7 (.pointer (some ⟨tb,j*6+3,none⟩)) hSw ?_;(try simp only[nS]);refine lG 8 (.slice (some ⟨wg,off,none⟩) (NW+1) cap) hSw (fun W hW=>?_) ?_
 · have d3v:=hW.cell (by dsimp only;omega) d3v
   first|(go_simp;done)|rfl
 (try simp only[nS]);refine lH 9 (.pointer (some ⟨wg,off,none⟩)) hSw ?_;(try simp only[nS]);refine lG 10 (.int .i64 x) hSw (fun W hW=>?_) ?_
 · have hcv:=hW.cell (by dsimp only;omega) hcv
   first|(go_simp;done)|rfl
 (try simp only[nS]);refine lR 11 (fun J hK=>?_);clear hSw;go_simp;refine hK.out _ _ (fun k hk=>HS3.out k hk) (fun hSw=>?_);clear hK J;(try simp only[nS]);refine lR 12 (fun J hK=>?_);clear hSw;refine Lib.wp_append_run _ _ _ _ _ rfl _ _ rfl rfl _ _ HRUN.out ?_;refine hK.out _ _ (fun k hk=>HS8.out k hk) (fun hSw=>?_);clear hK J;(try simp only[nS]);refine yP (rs:=[13]) (by kernel_rfl) (by simp) (by rfl) ?_;refine oR 13 (fun J hK=>?_);go_simp;refine hK.out _ _ ?_;clear hK J;(try simp only[nS]);refine oR 14 (fun J hK=>?_);go_simp;refine hK.out _ _ ?_;clear hK J;(try simp only[nS]);refine oR 15 (fun J hK=>?_);go_simp;refine hK.out _ _ ?_;clear hK J;(try simp only[nS]);refine wpAny_done (by kernel_rfl) ?_ _;rw[←HW9.out];clear d3 d3v d4v hcv hcell e8 f8 g0 g1 g2 k0 k1 k3 e3 hSw
 by_cases hcap:cap=1
 · have hnv:nv=Value.slice (some ⟨wg,off,none⟩) NW 0:=by rw[HNV.out,if_pos hcap,hcap]
   have HQ:=HFIN.out;rw[hnv]at HQ;have HQ2:=hid HQ;clear HQ hnv HNV HFIN;go_wp2_with fail;go_ret;exact HQ2.out
 · have hnv:nv=Value.slice (some ⟨wg,off+1,none⟩) NW (cap - 1):=by rw[HNV.out,if_neg hcap]
   have HQ:=HFIN.out;rw[hnv]at HQ;have HQ2:=hid HQ;clear HQ hnv HNV HFIN;go_wp2_with fail;go_ret;exact HQ2.out
end
section
open Go Go.Lib Go.RowKit
structure ROk (g:Gr) (T:RT):Prop where
 regs:T.regs.length=g.refs.length
 bi:T.bi<g.blocks.length
 ii:∀ bk,g.blocks[T.bi]? = some bk→T.ii≤bk.ins.length
theorem z3m (W:WS) (T:RT) (i:In) (mark:Nat):(zY W T i mark).2.1.bi=T.bi∧(zY W T i mark).2.1.ii=T.ii∧(zY W T i mark).2.1.regs.length=T.regs.length∧(zY W T i mark).2.1.wait=T.wait∧(zY W T i mark).2.1.out=T.out∧(zY W T i mark).2.1.fin=T.fin:=by
 unfold zY
 repeat' split
 all_goals simp[RT.setR]
theorem YF (W:WS) (T:RT) (i:In) (mark:Nat):(doR W T i mark).2.1.bi=T.bi∧(doR W T i mark).2.1.ii=T.ii∧(doR W T i mark).2.1.regs.length=T.regs.length∧(doR W T i mark).2.1.wait=T.wait∧(doR W T i mark).2.1.out=T.out∧(doR W T i mark).2.1.fin=T.fin:=by
 unfold doR
 repeat' split
 all_goals first|exact z3m W T i mark|simp[RT.setR]
theorem JS (T:RT) (b:Bk):(yx T b).1.regs=T.regs∧(yx T b).1.wait=T.wait∧(yx T b).1.out=T.out:=by
 unfold yx
 repeat' split
 all_goals simp
theorem uf (g:Gr) (W:WS) (T:RT) (inside:Bool) (mark:Nat) (l:List Int):(zy g W T inside mark l).2.1.regs.length=T.regs.length∧(zy g W T inside mark l).2.1.wait=T.wait∧(zy g W T inside mark l).2.1.out=T.out∧(zy g W T inside mark l).2.2.1.length≤l.length+1:=by
 unfold zy
 repeat' split
 all_goals first|(simp;done)|(simp[JS];done)|(have h:=YF W { T with ii:=T.ii+1 } (by assumption) mark;exact⟨h.2.2.1,h.2.2.2.1,h.2.2.2.2.1,by simp⟩)
theorem ZL {g:Gr} {W:WS} {T:RT} {inside:Bool} {mark:Nat} {l:List Int} (hg:GOk g) (h:ROk g T) (hon:(zy g W T inside mark l).2.2.2=0):ROk g (zy g W T inside mark l).2.1:=by
 obtain⟨bk,hbk⟩:∃ bk,g.blocks[T.bi]? = some bk:=⟨_,List.getElem?_eq_getElem h.bi⟩
 have hbm:bk ∈ g.blocks:=List.mem_of_getElem? hbk;have hl:=hg.last bk hbm;unfold zy at hon ⊢;rw[hbk]at hon ⊢;simp only at hon ⊢
 have hstep:∀ x,bk.ins[T.ii]? = some x→∀ b2,g.blocks[T.bi]? = some b2→T.ii+1≤b2.ins.length:=fun x hx b2 hb2=>by
  rw[hbk]at hb2;cases hb2;exact (List.getElem?_eq_some_iff.1 hx).1
 cases hx:bk.ins[T.ii]? with
 | none =>
  rw[hx]at hon;simp only at hon ⊢;have hgo:∀ y,yj g.blocks.length y→ROk g { T with bi:=y.toNat,ii:=0 }:=fun y hy=>⟨h.regs,by unfold yj at hy;show y.toNat<_;omega,fun _ _=>Nat.zero_le _⟩
  unfold yx at hon ⊢
  by_cases h1:bk.last=1
  · rw[if_pos h1];exact hgo _ (hl.yes (by omega))
  · rw[if_neg h1]at hon ⊢
    by_cases h2:bk.last=2
    · rw[if_pos h2]
      by_cases h3:T.reg bk.reg≠0
      · rw[if_pos h3];exact hgo _ (hl.yes (by omega))
      · rw[if_neg h3];exact hgo _ (hl.no h2)
    · rw[if_neg h2]at hon
      simp at hon
 | some x =>
  rw[hx]at hon;simp only at hon ⊢;have hst:=hstep x hx
  by_cases h12:x.k=12
  · rw[if_pos h12];exact⟨h.regs,h.bi,hst⟩
  · rw[if_neg h12]at hon ⊢
    by_cases h14:x.k=14
    · rw[if_pos h14];exact⟨h.regs,h.bi,hst⟩
    · rw[if_neg h14]
      have hd:=YF W { T with ii:=T.ii+1 } x mark;refine⟨hd.2.2.1.trans h.regs, ?_, ?_⟩
      · show (doR W { T with ii:=T.ii+1 } x mark).2.1.bi<_
        rw[hd.1];exact h.bi
      · show ∀ b2,g.blocks[(doR W { T with ii:=T.ii+1 } x mark).2.1.bi]? = some b2→(doR W { T with ii:=T.ii+1 } x mark).2.1.ii≤_
        rw[hd.1,hd.2.1];exact hst
theorem VT {g:Gr} {W:WS} {T:RT} {mark:Nat} {l:List Int} (hon:(zy g W T false mark l).2.2.2=0):(zy g W T false mark l).2.2.1=l:=by
 unfold zy at hon ⊢
 repeat' split at hon
 all_goals first|(simp_all;done)|(repeat' split)
 all_goals simp_all
end
open Go.RowKit
theorem XY (ow:Nat→Nat) (w:World) (lab:Nat) (v:Value) (l:List Int) (x:Int) (ty:TypeId) (ga:Addr) (gc:Nat) (h:zI ow w lab v l) (hnews:∀ j u,[Value.int .i64 x][j]? = some u→w.cell? (ga.add j)=some u) (hl:l.length≤1048576) :
 ∃ v' w',(Builtin.append_ #[85,85] ty #[v,.slice (some ga) 1 gc]).run Tryz.prog w = .ok v' w'∧(∃ p c,v' = .slice p (l.length+1) c)∧∃ ow',Ext ow ow' w∧zI ow' w' lab v' (l++[x])∧But ow [lab] w w':=by
 obtain⟨i,hi,hz,hs,hb⟩:=info_parts jF;have ht:=Tryz.underlying85
 have fresh:∀ (cs:Array Value) (cap:Nat),l.length+1≤cap→cap≤maxLen→cs.size=cap→(∀ (k:Nat) y,(l++[x])[k]? = some y→cs[k]? = some (.int .i64 y)) →
  ∃ ow',Ext ow ow' w∧zI ow' (w.drew.alloc (.cells cs 2)) lab (.slice (some ⟨w.heap.size,0,none⟩) (l.length+1) cap) (l++[x])∧But ow [lab] w (w.drew.alloc (.cells cs 2)):=by
  intro cs cap h1 h2 h3 h4;refine⟨_,jI (l:=lab),.inr ⟨w.heap.size,0,cap,cs,by simp,heap_alloc_new w.drew _,by simp,by simpa using h1,h2,by omega,fun k y hy=>by rw[Nat.zero_add];exact h4 k y hy⟩,⟨rfl,rfl,rfl,by simp,fun k hk _=>Below.heap_alloc w.drew _ k hk⟩⟩
 rcases h with ⟨rfl,rfl⟩|⟨g,off,cap,cur,rfl,hg,hlab,hlc,hcm,hsz,hc⟩
 · have hr:=run_append_nil (P:=Tryz.prog) (w:=w) 85 ty 2 i (.int .i64 0) ht hi hz ga 1 gc [.int .i64 x] (by rw[hs];rfl) hnews (by decide) (by decide) (by rw[hb];decide)
   have hge:=grownCap_ge w 1 0 2;have hle:=grownCap_le_maxLen w 1 0 2 (by decide);refine⟨_,_,hr,⟨_,_,rfl⟩,fresh _ _ hge hle (by simp[Builtin.zeroCells,Value.cells];omega) fun k y hy=>?_⟩;cases k with
   | zero=>simp at hy;subst hy;first|rfl|(rw[Array.getElem?_append,if_pos (by simp)];rfl)
   | succ k=>simp at hy
 · have holds:∀ j u,(wds l)[j]? = some u→w.cell? ((⟨g,off,none⟩:Addr).add j)=some u:=fun j u hu=>by
    rw[wds,List.getElem?_map]at hu;obtain⟨y,hy,rfl⟩:=Option.map_eq_some_iff.1 hu;rw[Addr.add_mid,Lib.cell_of_heap hg];exact hc j y hy
   by_cases hroom:l.length+1≤cap
   · have hst:=run_storeCells_at Tryz.prog g (off+l.length) 2 [Value.int .i64 x] 0 cur w hg (by simp;omega) (by simp[Value.oneCell'])
     simp only[Nat.add_zero,List.length_singleton]at hst;have hlo:(Builtin.lenOf (.slice (some ga) 1 gc)).run Tryz.prog w = .ok 1 w:=rfl;have hfc:=run_firstCells_some (P:=Tryz.prog) w 1 1 ga 1 gc [.int .i64 x] rfl hnews
     have hr:(Builtin.append_ #[85,85] ty #[.slice (some ⟨g,off,none⟩) l.length cap,.slice (some ga) 1 gc]).run Tryz.prog w = .ok (.slice (some ⟨g,off,none⟩) (l.length+1) cap) (w.setRow g (cur.toList.take (off+l.length)++[Value.int .i64 x]++cur.toList.drop (off+l.length+1)).toArray):=by
      simp[Builtin.append_,run_underlying ht,sizeOf,typeInfo,hi,hs,Builtin.lenOf,hroom,hfc,Addr.add_mid];simp at hst;rw[hst]
      rfl
     have hcs:∀ k y,(l++[x])[k]? = some y→(cur.toList.take (off+l.length)++[Value.int .i64 x]++cur.toList.drop (off+l.length+1)).toArray[off+k]? = some (.int .i64 y):=by
      intro k y hy;simp only[List.getElem?_toArray];rw[List.append_assoc];have htl:(cur.toList.take (off+l.length)).length=off+l.length:=by simp;omega
      by_cases hk:k<l.length
      · rw[List.getElem?_append,if_pos hk]at hy
        rw[List.getElem?_append,if_pos (by omega),List.getElem?_take,if_pos (by omega)];have:=hc k y hy
        simpa using this
      · rw[List.getElem?_append,if_neg hk]at hy
        have hk0:k=l.length:=by
         rcases Nat.lt_or_ge (k - l.length) 1 with q|q
         · omega
         · rw[List.getElem?_eq_none (by simpa using q)]at hy;cases hy
        subst hk0;simp at hy;subst hy;rw[List.getElem?_append,if_neg (by omega),htl,Nat.sub_self]
        rfl
     refine⟨_,_,hr,⟨_,_,rfl⟩,ow,.refl _ _,.inr ⟨g,off,cap,_,by simp,setRow_heap w g cur _ _ _ hg,hlab,by simpa using hroom,hcm,by simp;omega,hcs⟩,⟨rfl,rfl,rfl,by simp,fun k _ hn=>setRow_other w g k _ (by rintro rfl;exact hn (by rw[hlab];simp))⟩⟩
   · have hg2:cap<l.length+1:=by omega
     have hr:=run_append_grow (P:=Tryz.prog) (w:=w) 85 ty 2 i (.int .i64 0) ht hi hz ⟨g,off,none⟩ l.length cap (wds l) (by rw[hs,xR,Nat.mul_one]) holds ga 1 gc [.int .i64 x] (by rw[hs];rfl) hnews hg2 (by omega) (by rw[hb];exact growslice_fits hg2 (by omega));have hge:=grownCap_ge w (l.length+1) cap 2;have hle:=grownCap_le_maxLen w (l.length+1) cap 2 (by unfold maxLen;omega);refine⟨_,_,hr,⟨_,_,rfl⟩,fresh _ _ hge hle (by simp[Builtin.zeroCells,Value.cells,xR];omega) fun k y hy=>?_⟩
     have hkl:k<l.length+1:=by
      rcases Nat.lt_or_ge k (l.length+1)with q|q
      · exact q
      · rw[List.getElem?_eq_none (by simpa using q)]at hy;cases hy
     rw[Array.getElem?_append,if_pos (by simp[xR];omega)];simp only[List.append_toArray,List.getElem?_toArray];have:wds l++[Value.int .i64 x]=wds (l++[x]):=by simp[wds]
     rw[this,wds,List.getElem?_map,hy];rfl
theorem Xp (ow:Nat→Nat) (w:World) (l:List Int) (ty:TypeId) (v:Value) (hv:w.ownsRow 0 2 1 v l.length (wds l)) (hl:1≤l.length∧l.length≤65537) (H:Nat) (hH:w.heap[H]? = some (.cells #[] 2 (0,0))) (hoH:ow H=6) :
 ∃ v' w',(Builtin.append_ #[85,85] ty #[.slice (some ⟨H,0,none⟩) 0 0,v]).run Tryz.prog w = .ok v' w'∧(∃ q c,v' = .slice q l.length c)∧∃ ow',Ext ow ow' w∧w'.ownsRow 0 2 1 v' l.length (wds l)∧(∀ k,v'.ownBlock=some k→ow' k=6)∧But ow [6] w w':=by
 obtain⟨i,hi,hz,hs,hb⟩:=info_parts jF;have ht:=Tryz.underlying85;have hown:w.ownsRow 0 2 1 (.slice (some ⟨H,0,none⟩) 0 0) 0 []:=⟨rfl,.inr ⟨H,0,#[],rfl,Nat.zero_le _,hH,by simp,by simp,by simp,by simp⟩⟩
 obtain⟨g,cap,rfl,-,hlt⟩:=hv.form (by omega);have hcell:=hv.cells (g:=g) rfl;have hHl:=z8 hH;obtain⟨v',w',hr,h2,h3,-,hgo⟩:=run_append_own_at (P:=Tryz.prog) w 0 85 ty 2 i (.int .i64 0) 1 8 ht hi hz hs hb rfl (by omega) _ 0 [] hown ⟨g,0,none⟩ l.length cap (wds l) (by rw[xR,Nat.mul_one]) hcell (by intro u hu;simp[wds]at hu;obtain⟨y,-,rfl⟩:=hu;rfl) (by unfold maxLen;omega) (by omega) (Nat.zero_le _);rw[Nat.zero_add,List.nil_append]at h2
 have hf:∃ q c,v' = .slice q l.length c:=by
  obtain⟨g2,cap2,e,-⟩:=h2.form (by omega);exact⟨_,_,e⟩
 refine⟨v',w',hr,hf,fun k=>if k<w.heap.size then ow k else 6,jI,h2,fun k hk=>?_,⟨h3.os,h3.tape,h3.output,h3.size,fun k hk hn=>h3.block k hk (fun q=>hn ?_)⟩⟩
 · rcases hgo with q|q
   · have e:k=H:=by rw[hk]at q;exact (Option.some.inj q)
     subst e;simp[hHl,hoH]
   · rw[hk]at q;cases q;simp
 · have e:k=H:=by first|exact (Option.some.inj q).symm|exact (Option.some.inj q)
   subst e;simp[hoH]
theorem vD {ow0 ow1:Nat→Nat} {ls:List Nat} {U a c:World} (h:But ow0 ls U a) (he:Ext ow0 ow1 U) (k:But ow1 ls a c):But ow0 ls U c:=
 ⟨k.os.trans h.os,k.tape.trans h.tape,k.output.trans h.output,Nat.le_trans h.size k.size,fun i hi hn=>(k.block i (Nat.lt_of_lt_of_le hi h.size) (by rw[he i hi];exact hn)).trans (h.block i hi hn)⟩
theorem uE {ow:Nat→Nat} {w:World}:Ext ow (fun k=>if k<w.heap.size then ow k else 0) w:=fun k hk=>by simp[hk]
structure GoS (ow0:Nat→Nat) (U:World) (b:Nat) (wd:Int) (tv tw:Value) (tb j cl:Nat) (rs ws os:Value) (g:Gr) (out:List Int) (n:Nat) (W:WS) (T:RT) (K:Ks) (l:List Int) (ow1:Nat→Nat) (wr:World) (v lv wv:Value):Prop where
 ext:Ext ow0 ow1 U
 qw:QW ow1 wr b wd tv tw W (n:Int) v
 qt:QT ow1 wr tb (j*6) j T rs ws os
 la:LAt ow1 wr cl lv l
 was:K.inside=true→wr.ownsRow 0 2 1 wv K.was.length (wds K.was)∧(∀ k,wv.ownBlock=some k→ow1 k=6)∧1≤K.was.length∧K.was.length≤65537
 but:But ow0 [1,2,3,4,5,6,10+8*j] U wr
 tk:TbK tb (j*6) U wr
 new:∀ k,wr.heap.size≤k→ow1 k=0
 ok:ROk g T
 len:l.length+n≤1048576
 out0:K.inside=false→l=[]
 wait:T.wait=[]
 same:T.out=out
 lb:ow0 b=1∧ow0 tb=3
theorem GoS.below {ow0:Nat→Nat} {U:World} {b:Nat} {wd:Int} {tv tw:Value} {tb j cl:Nat} {rs ws os:Value} {g:Gr} {out:List Int} {n:Nat} {W:WS} {T:RT} {K:Ks} {l:List Int} {ow1:Nat→Nat} {wr w':World} {v lv wv:Value}
 (h:GoS ow0 U b wd tv tw tb j cl rs ws os g out n W T K l ow1 wr v lv wv) (hb:Below wr.heap.size wr w'):GoS ow0 U b wd tv tw tb j cl rs ws os g out n W T K l ow1 w' v lv wv:=by
 have hB:∀ ls,But ow1 ls wr w':=fun ls=>But.of hb
 exact⟨h.ext,h.qw.keeps (hB []) (.refl _ _) (by simp) (by simp),h.qt.keeps (hB []) (.refl _ _) (by simp) (by simp) (by simp) (by simp),h.la.keeps (hB []) (.refl _ _) (by simp) (by simp),
  fun hi=>⟨zM (h.was hi).1 (hB []) (h.was hi).2.1 (by simp),(h.was hi).2⟩,vD h.but h.ext (hB _),h.tk.trans (TbK.of_but h.qt.row.choose_spec.1 h.qt.lab (hB []) (by simp)),fun k hk=>h.new k (Nat.le_trans hb.size hk),h.ok,h.len,h.out0,h.wait,h.same,h.lb⟩
theorem GoS.step {ow0:Nat→Nat} {U:World} {b:Nat} {wd:Int} {tv tw:Value} {tb j cl:Nat} {rs ws os:Value} {g:Gr} {out:List Int} {m:Nat} {W:WS} {T:RT} {K:Ks} {l:List Int} {ow1:Nat→Nat} {wr w':World} {v lv wv:Value} {mark:Nat}
 (h:GoS ow0 U b wd tv tw tb j cl rs ws os g out (m+1) W T K l ow1 wr v lv wv) (hg:GOk g) (hon:(zy g W T K.inside mark l).2.2.2=0)
 (hq:QSt ow1 b wd tv tw tb (j*6) j cl rs ws os (m:Int) (zy g W T K.inside mark l).1 (zy g W T K.inside mark l).2.1 (zy g W T K.inside mark l).2.2.1 wr w') :
 ∃ ow2 v' lv',GoS ow0 U b wd tv tw tb j cl rs ws os g out m (zy g W T K.inside mark l).1 (zy g W T K.inside mark l).2.1 K (zy g W T K.inside mark l).2.2.1 ow2 w' v' lv' wv:=by
 obtain⟨ow2,v',lv',he,q1,q2,q3,q4,q5⟩:=hq;have hk:=uf g W T K.inside mark l;have hB:But ow2 ([]:List Nat) w' w':=But.of (Below.refl _ _);have hc:Ext ow2 (fun k=>if k<w'.heap.size then ow2 k else 0) w':=uE;have hsz:=q4.size;have hrw:Ext ow1 (fun k=>if k<w'.heap.size then ow2 k else 0) wr:=fun k hk=>(hc k (Nat.lt_of_lt_of_le hk hsz)).trans (he k hk)
 refine⟨_,v',lv',fun k hk=>(hrw k (Nat.lt_of_lt_of_le hk h.but.size)).trans (h.ext k hk),q1.keeps hB hc (by simp) (by simp),q2.keeps hB hc (by simp) (by simp) (by simp) (by simp),q3.keeps hB hc (by simp) (by simp),
  fun hi=>⟨zM (h.was hi).1 q4 (h.was hi).2.1 (by simp;omega),yA (h.was hi).1 hrw (h.was hi).2.1,(h.was hi).2.2⟩,vD h.but h.ext (zi q4 (by simp)),h.tk.trans q5,fun k hk=>by simp[Nat.not_lt.2 hk],ZL hg h.ok hon, ?_,fun hi=>?_,hk.2.1.trans h.wait,hk.2.2.1.trans h.same,h.lb⟩
 · have:=hk.2.2.2;have:=h.len;omega
 · rw[hi]at hon ⊢
   rw[VT hon];exact h.out0 hi
