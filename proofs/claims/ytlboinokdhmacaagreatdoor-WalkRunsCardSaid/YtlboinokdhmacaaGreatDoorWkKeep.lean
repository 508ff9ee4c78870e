import Derived.Test.YtlboinokdhmacaaGreatDoorRwAt
namespace Go.Proofs.YtlboinokdhmacaaGreatDoor
set_option maxHeartbeats 64000000
set_option maxRecDepth 1000000
open Lib(hid)
section
open Go.RowKit
attribute [local go_sem ↓] zL zJ
def jg (Q:Nat→Nat→Prop) (w W:World):Prop:=∀ k off,Q k off→W.cell? ⟨k,off,none⟩ = w.cell? ⟨k,off,none⟩
theorem jg.cell {Q:Nat→Nat→Prop} {w W:World} (h:jg Q w W) {k off:Nat} {v:Value} (hq:Q k off) (hc:w.cell? ⟨k,off,none⟩ = some v):W.cell? ⟨k,off,none⟩ = some v:=(h k off hq).trans hc
structure qL (R NB:Nat) (b:Bk):Prop where
 reg:b.last=2→yj R b.reg
 yes:b.last≠3→yj NB b.yes
 no:b.last=2→yj NB b.no
theorem VP (ow:Nat→Nat) (w:World) (B b j p n:Nat) (g:Gr) (W:WS) (T:TS) (v rs us ts ws:Value) (bk:Bk) (h1:WAt ow w b W n v) (h2:TAt ow w b j p g T rs us ts ws) (hB:B≤w.heap.size) (hnew:∀ k,w.heap.size≤k→ow k=0) (hg:GIn w B g)
 (hbk:g.blocks[T.bi]? = some bk) (hii:T.ii≤bk.ins.length) (hfit:∀ i ∈ bk.ins,Fits T.regs.length i) (hlast:qL T.regs.length g.blocks.length bk) (hsafe:Safe W T) :
 Calls Tryz.prog 192 #[.pointer (some ⟨p,0,none⟩)] w (zN ow b j p g n (ww g W T) w):=by
 have hbi:=(List.getElem?_eq_some_iff.1 hbk).1;have hbkin:bk ∈ g.blocks:=List.mem_of_getElem? hbk
 obtain⟨gb,goff,capB,hbv,hgb,hbc⟩:∃ gb goff cap,g.bv = .slice (some ⟨gb,goff,none⟩) g.blocks.length cap∧gb<B∧∀ q u,bk.cells[q]? = some u→w.cell? ⟨gb,goff+T.bi*5+q,none⟩ = some u:=by
  obtain⟨ao,cap,hs,_,hl⟩:=hg.blies;rcases hl with hl|⟨gb,goff,rfl,hgb,hc⟩
  · rw[hl]at hbi;exact absurd hbi (by simp)
  · exact⟨gb,goff,cap,hs,hgb,fun q u hu=>by rw[Nat.add_assoc];exact hc _ _ hbk q u hu⟩
 have hbin:=hg.blocks bk hbkin;obtain⟨iao,icap,hiv,hil,hic⟩:=hbin.lies;have hlp:p<w.heap.size:=z8 h2.box;have hlb:b<w.heap.size:=z8 h1.box;have hgw:gb<w.heap.size:=by omega
 obtain⟨d0,d3,d4,d5,d6,d7,d8,d9,d10,d11,d12⟩:=h2.cells;rw[hbv]at d3;obtain⟨NB,hNB⟩:∃ N,N=g.blocks.length:=⟨_,rfl⟩
 obtain⟨NI,hNI⟩:∃ N,N=bk.ins.length:=⟨_,rfl⟩
 obtain⟨BI,hBI⟩:∃ N,N=T.bi:=⟨_,rfl⟩
 obtain⟨II,hII⟩:∃ N,N=T.ii:=⟨_,rfl⟩
 have k0:w.cell? ⟨gb,goff+BI*5,none⟩ = some (.slice iao NI icap):=by rw[hBI,hNI,←hiv];exact hbc 0 _ rfl
 rw[←hNB]at d3;rw[←hBI]at d5;rw[←hII]at d6;have hbN:BI<NB:=by rw[hBI,hNB];exact hbi
 have hnx:ww g W T=match bk.ins[T.ii]? with
  | none=>(W,(lastT T bk).1,(lastT T bk).2)
  | some i=>yB W { T with ii:=T.ii+1 } i:=by unfold ww;rw[hbk];rfl
 have HBC:=hid hbc;have H1:=hid h1;have H2:=hid h2;have HNB:=hid hNB;have HNI:=hid hNI;have HBI:=hid hBI;have HII:=hid hII;have hiL:NI≤140737488351232:=by rw[hNI];exact hil
 have hiN:II≤NI:=by rw[hII,hNI];exact hii
 clear d4 d7 d8 d9 d10 d11 d12 hbc hNB hBI hiv hil;go_enter Tryz.func192,Tryz.ntmps192;go_wp2_with fail;refine wp_region_held_drew (S:=zk (w.heap.size) w) (by kernel_rfl) (zk.drew _ _) (fun hSw=>?_);refine tH 0 (.pointer (some ⟨p,0,none⟩)) hSw ?_;(try simp only[nS]);refine tH 1 (.pointer (some ⟨p,0,none⟩)) hSw ?_;(try simp only[nS]);refine tH 2 (.pointer (some ⟨p,1,none⟩)) hSw ?_;(try simp only[nS]);refine tH 3 (.pointer (some ⟨p,3,none⟩)) hSw ?_;(try simp only[nS]);refine tG 4 (.slice (some ⟨gb,goff,none⟩) NB capB) hSw (fun W hW=>?_) ?_
 · have d3:=hW.cell (by dsimp only;omega) d3
   first|(go_simp;done)|rfl
 (try simp only[nS]);refine tH 5 (.pointer (some ⟨p,0,none⟩)) hSw ?_;(try simp only[nS]);refine tH 6 (.pointer (some ⟨p,0,none⟩)) hSw ?_;(try simp only[nS]);refine tH 7 (.pointer (some ⟨p,5,none⟩)) hSw ?_;(try simp only[nS]);refine tH 8 (.pointer (some ⟨p,5,none⟩)) hSw ?_;(try simp only[nS]);refine tG 9 (.int .i64 (BI:Int)) hSw (fun W hW=>?_) ?_
 · have d5:=hW.cell (by dsimp only;omega) d5
   first|(go_simp;done)|rfl
 (try simp only[nS]);refine tH 10 (.pointer (some ⟨gb,goff+BI*5,none⟩)) hSw ?_;(try simp only[nS]);refine tH 11 (.pointer (some ⟨gb,goff+BI*5,none⟩)) hSw ?_;(try simp only[nS]);refine wpAnyH_done (by kernel_rfl) ?_ _;have hdc:∀ (a:Addr) (u:Value),w.cell? a=some u→w.drew.cell? a=some u:=fun _ _ h=>h
 replace d0:=hdc _ _ d0
 replace d3:=hdc _ _ d3
 replace d5:=hdc _ _ d5
 replace d6:=hdc _ _ d6
 replace k0:=hdc _ _ k0
 clear hdc hSw
 by_cases he:II=NI
 · have hn0:bk.ins[T.ii]? = none:=List.getElem?_eq_none (by rw[←hNI,←hII];omega)
   rw[hn0]at hnx;have HNX:=hid hnx;have hd:But ow [] w w.drew.drew:=But.of (below_drewN' (below_drewN' (Below.refl _ _)));have HC:=hid (Xm ow w.drew.drew b j p n g W T v rs us ts ws bk gb (goff+BI*5) (h1.keeps hd (.refl _ _) (by simp) (by simp)) (h2.keeps hd (.refl _ _) (by simp)) (by exact hgw) (by rw[HBI.out];exact HBC.out) hlast.reg (fun q=>(hlast.yes q).1) (fun q=>(hlast.no q).1));have k0:w.drew.cell? ⟨gb,goff+BI*5,none⟩ = some (.slice iao II icap):=by rw[he];exact k0
   clear hnx hn0 hd hfit hlast hsafe hbk hii hg hic hNI hII h1 h2 he hbin hbkin hbi;go_wp2_with fail;refine wp_region_held_drew (S:=zk (w.heap.size) w.drew) (by kernel_rfl) (zk.drew _ _) (fun hSw=>?_);refine tH 0 (.pointer (some ⟨p,0,none⟩)) hSw ?_;(try simp only[nS]);refine tH 1 (.pointer (some ⟨p,0,none⟩)) hSw ?_;(try simp only[nS]);refine tH 2 (.pointer (some ⟨p,5,none⟩)) hSw ?_;(try simp only[nS]);refine tH 3 (.pointer (some ⟨p,6,none⟩)) hSw ?_;(try simp only[nS]);refine tG 4 (.int .i64 (II:Int)) hSw (fun W hW=>?_) ?_
   · have d6:=hW.cell (by dsimp only;omega) d6
     first|(go_simp;done)|rfl
   (try simp only[nS]);refine tH 5 (.pointer (some ⟨gb,goff+BI*5,none⟩)) hSw ?_;(try simp only[nS]);refine tH 6 (.pointer (some ⟨gb,goff+BI*5,none⟩)) hSw ?_;(try simp only[nS]);refine tH 7 (.pointer (some ⟨gb,goff+BI*5,none⟩)) hSw ?_;(try simp only[nS]);refine tG 8 (.slice iao II icap) hSw (fun W hW=>?_) ?_
   · have k0:=hW.cell (by dsimp only;omega) k0
     first|(go_simp;done)|rfl
   (try simp only[nS]);refine tH 9 (.int .i64 (II:Int)) hSw ?_;(try simp only[nS]);refine tH 10 (.bool true) hSw ?_;(try simp only[nS]);refine wpAnyH_done (by kernel_rfl) ?_ _;go_wp2_with fail;refine HC.out.mono ?_;rintro e w2 hE;obtain⟨r,hr⟩:=(show ∃ r,e = .returned (.bool r)from⟨_,hE.1⟩)
   subst hr;have HE:=hid hE;clear hE;go_wp2_with fail;go_ret;rw[HNX.out];exact HE.out.from (below_drewN' (below_drewN' (Below.refl _ _)))
 · have hlt:II<NI:=by omega
   obtain⟨gi,ioff,rfl,hgi,hcells⟩:=hic.resolve_left (fun q=>by rw[q]at hNI;simp at hNI;omega);obtain⟨it,hit⟩:∃ i,bk.ins[T.ii]? = some i:=⟨_,List.getElem?_eq_getElem (by rw[←hNI,←hII];exact hlt)⟩
   have hitm:it ∈ bk.ins:=List.mem_of_getElem? hit;have hft:=hfit it hitm;rw[hit]at hnx;have hnx2:ww g W T=yB W { T with ii:=T.ii+1 } it:=hnx;have HNX:=hid hnx2;have hk:=hft.k;have hic2:∀ q u,it.cells[q]? = some u→w.cell? ⟨gi,ioff+II*6+q,none⟩ = some u:=fun q u hu=>by rw[Nat.add_assoc,hII];exact hcells _ _ hit q u hu
   obtain⟨F,hF,heg,hCF⟩:=z0g b j p n g W { T with ii:=T.ii+1 } it hft ⟨hsafe.un,hsafe.und,hsafe.told,hsafe.wait⟩;obtain⟨kz,o,a,bb,cc,x⟩:=it;dsimp only at hk;obtain⟨kn,rfl⟩:∃ m:Nat,kz=(m:Int):=⟨kz.toNat,by omega⟩
   have hkn:1≤kn∧kn≤14:=by omega
   have c0:w.drew.drew.cell? ⟨gi,ioff+II*6,none⟩ = some (.int .u8 (kn:Int)):=hic2 0 _ rfl;have c1:w.drew.drew.cell? ⟨gi,ioff+II*6+1,none⟩ = some (.int .u8 o):=hic2 1 _ rfl;have c2:w.drew.drew.cell? ⟨gi,ioff+II*6+2,none⟩ = some (.int .i64 a):=hic2 2 _ rfl;have c3:w.drew.drew.cell? ⟨gi,ioff+II*6+3,none⟩ = some (.int .i64 bb):=hic2 3 _ rfl;have c4:w.drew.drew.cell? ⟨gi,ioff+II*6+4,none⟩ = some (.int .i64 cc):=hic2 4 _ rfl;have c5:w.drew.drew.cell? ⟨gi,ioff+II*6+5,none⟩ = some (.int .i64 x):=hic2 5 _ rfl;have hgiw:gi<w.heap.size:=by omega
   have he2:((II:Int)==(NI:Int))=false:=jJ _ _ (by omega)
   have hdeed:w.cell? ⟨b,3+kn,none⟩ = some (fnV F):=by
    refine zh h1.box (3+kn) _ ?_;rw[Int.toNat_natCast]at hF;simp only[wK,List.getElem?_toArray];rw[show 3+kn=kn+1+1+1 by omega,List.getElem?_cons_succ,List.getElem?_cons_succ,List.getElem?_cons_succ];exact hF
   have HCF:=hid hCF;have HEG:=hid heg;have hd:But ow [] w w.drew.drew:=But.of (below_drewN' (below_drewN' (Below.refl _ _)));have H1D:=hid (h1.keeps hd (.refl _ _) (by simp) (by simp));have H2D:=hid (h2.keeps hd (.refl _ _) (by simp));clear hnx hnx2 hd hfit hlast hsafe hbk hii hg hNI h1 h2 hbin hbkin hbi hcells hic hit hitm hft hk hic2 hF heg hCF he hII;go_wp2_with fail;refine wp_region_held_drew (S:=zk (w.heap.size) w.drew) (by kernel_rfl) (zk.drew _ _) (fun hSw=>?_);refine tH 0 (.pointer (some ⟨p,0,none⟩)) hSw ?_;(try simp only[nS]);refine tH 1 (.pointer (some ⟨p,0,none⟩)) hSw ?_;(try simp only[nS]);refine tH 2 (.pointer (some ⟨p,5,none⟩)) hSw ?_;(try simp only[nS]);refine tH 3 (.pointer (some ⟨p,6,none⟩)) hSw ?_;(try simp only[nS]);refine tG 4 (.int .i64 (II:Int)) hSw (fun W hW=>?_) ?_
   · have d6:=hW.cell (by dsimp only;omega) d6
     first|(go_simp;done)|rfl
   (try simp only[nS]);refine tH 5 (.pointer (some ⟨gb,goff+BI*5,none⟩)) hSw ?_;(try simp only[nS]);refine tH 6 (.pointer (some ⟨gb,goff+BI*5,none⟩)) hSw ?_;(try simp only[nS]);refine tH 7 (.pointer (some ⟨gb,goff+BI*5,none⟩)) hSw ?_;(try simp only[nS]);refine tG 8 (.slice (some ⟨gi,ioff,none⟩) NI icap) hSw (fun W hW=>?_) ?_
   · have k0:=hW.cell (by dsimp only;omega) k0
     first|(go_simp;done)|rfl
   (try simp only[nS]);refine tH 9 (.int .i64 (NI:Int)) hSw ?_;(try simp only[nS]);refine tH 10 (.bool false) hSw ?_;(try simp only[nS]);refine wpAnyH_done (by kernel_rfl) ?_ _;obtain⟨V,hV⟩:∃ V,V=w.drew.drew:=⟨_,rfl⟩
   have hVz:V.heap.size=w.heap.size:=by rw[hV];rfl
   rw[←hV]at c0 c1 c2 c3 c4 c5 H1D H2D ⊢;have d0:V.cell? ⟨p,0,none⟩ = some (.pointer (some ⟨b,0,none⟩)):=by rw[hV];exact d0
   have d6:V.cell? ⟨p,6,none⟩ = some (.int .i64 (II:Int)):=by rw[hV];exact d6
   have k0:V.cell? ⟨gb,goff+BI*5,none⟩ = some (.slice (some ⟨gi,ioff,none⟩) NI icap):=by rw[hV];exact k0
   have hdeed:V.cell? ⟨b,3+kn,none⟩ = some (fnV F):=by rw[hV];exact hdeed
   have HV:=hid hV;clear hV d3 d5 hSw;go_wp2_with fail;refine yO (S:=zk (w.heap.size) V) (fun j=>decide (12≤j)) (by kernel_rfl) (zk.drew _ _) (fun hSw=>?_);refine lH 0 (.pointer (some ⟨gb,goff+BI*5,none⟩)) hSw ?_;(try simp only[nS]);refine lH 1 (.pointer (some ⟨gb,goff+BI*5,none⟩)) hSw ?_;(try simp only[nS]);refine lH 2 (.pointer (some ⟨gb,goff+BI*5,none⟩)) hSw ?_;(try simp only[nS]);refine lG 3 (.slice (some ⟨gi,ioff,none⟩) NI icap) hSw (fun W hW=>?_) ?_
   · have k0:=hW.cell (by dsimp only;omega) k0
     first|(go_simp;done)|rfl
   (try simp only[nS]);refine lH 4 (.pointer (some ⟨p,0,none⟩)) hSw ?_;(try simp only[nS]);refine lH 5 (.pointer (some ⟨p,0,none⟩)) hSw ?_;(try simp only[nS]);refine lH 6 (.pointer (some ⟨p,5,none⟩)) hSw ?_;(try simp only[nS]);refine lH 7 (.pointer (some ⟨p,6,none⟩)) hSw ?_;(try simp only[nS]);refine lG 8 (.int .i64 (II:Int)) hSw (fun W hW=>?_) ?_
   · have d6:=hW.cell (by dsimp only;omega) d6
     first|(go_simp;done)|rfl
   (try simp only[nS]);refine lH 9 (.pointer (some ⟨gi,ioff+II*6,none⟩)) hSw ?_;(try simp only[nS]);refine lG 10 (.agg #[.int .u8 (kn:Int),.int .u8 o,.int .i64 a,.int .i64 bb,.int .i64 cc,.int .i64 x]) hSw (fun W hW=>?_) ?_
   · have c0:=hW.cell (by dsimp only;omega) c0
     have c1:=hW.cell (by dsimp only;omega) c1;have c2:=hW.cell (by dsimp only;omega) c2;have c3:=hW.cell (by dsimp only;omega) c3;have c4:=hW.cell (by dsimp only;omega) c4;have c5:=hW.cell (by dsimp only;omega) c5
     first|(go_simp;done)|rfl
   (try simp only[nS]);refine lR 11 (fun J hK=>?_);clear hSw;go_simp;have hzn:V.heap.size=w.heap.size:=hVz;refine hK.out _ _ (zk.of ((ze V (.cells #[.int .u8 0,.int .u8 0,.int .i64 0,.int .i64 0,.int .i64 0,.int .i64 0] 159)).drew.mono (by omega))) (fun hSw=>?_);clear hK J;(try simp only[nS]);refine yP (rs:=[12]) (by kernel_rfl) (by simp) (by rfl) ?_;refine oR 12 (fun J hK=>?_);go_simp;refine hK.out _ _ ?_;clear hK J;(try simp only[nS]);refine wpAny_done (by kernel_rfl) ?_ _;obtain⟨X,hX⟩:∃ X,X=(V.alloc (.cells #[.int .u8 (kn:Int),.int .u8 o,.int .i64 a,.int .i64 bb,.int .i64 cc,.int .i64 x] 159)).drew:=⟨_,rfl⟩
   have hbX:Below V.heap.size V X:=by rw[hX];exact (ze _ _).drew
   have hXO:X.heap[w.heap.size]? = some (.cells #[.int .u8 (kn:Int),.int .u8 o,.int .i64 a,.int .i64 bb,.int .i64 cc,.int .i64 x] 159 (0,0)):=by rw[hX,←hVz];exact (MapKept.heap_alloc _ _).1
   have hXz:X.heap.size=w.heap.size+1:=by rw[hX];simp[hVz]
   rw[←hX];obtain⟨i0,i1,i2,i3,i4,i5⟩:=zl hXO;have d0:=(hbX.cell (p:=⟨p,0,none⟩) (by dsimp only;omega)).trans d0;have d6:=(hbX.cell (p:=⟨p,6,none⟩) (by dsimp only;omega)).trans d6;have hdeed:=(hbX.cell (p:=⟨b,3+kn,none⟩) (by dsimp only;omega)).trans hdeed;have H1X:=hid (H1D.out.keeps (But.of (ls:=[]) hbX) (.refl _ _) (by simp) (by simp));have H2X:=hid (H2D.out.keeps (But.of (ls:=[]) hbX) (.refl _ _) (by simp));have f6:=Lib.frozen_of_heap H2X.out.box 6;have HBX:=hid hbX;have HXO:=hid hXO;clear hX hbX hXO c0 c1 c2 c3 c4 c5 k0 hSw hVz;go_wp2_with fail;obtain⟨Y,hY⟩:∃ Y,Y=X.setCell ⟨p,6,none⟩ (.int .i64 ((II+1:Nat):Int)):=⟨_,rfl⟩
   have hlabp:=H2X.out.lab;have hbY:But ow [10+8*j] X Y:=by rw[hY];exact xX _ _ hlabp
   have hYe:X.setCell ⟨p,6,none⟩ (.int .i64 ((II:Int)+1))=Y:=by rw[hY];rfl
   rw[hYe];have hpw:p≠w.heap.size:=by omega
   have hYk:∀ k,k≠p→Y.heap[k]? = X.heap[k]?:=fun k hk=>by rw[hY];exact Below.heap_setCell _ _ _ _ hk
   have H1Y:=hid (H1X.out.keeps hbY (.refl _ _) (by simp;omega) (by simp;omega));have H2Y:=hid (show TAt ow Y b j p g { T with ii:=T.ii+1 } rs us ts ws from H2X.out.rebox hbY (by rw[hY,HII.out];exact vo 6 _ H2X.out.box rfl) rfl rfl rfl rfl);obtain⟨i0,i1,i2,i3,i4,i5⟩:=zl ((hYk _ hpw.symm).trans HXO.out);have d0:=H2Y.out.cells.1;have hpb:b≠p:=fun e=>by have:=H1X.out.lab;rw[e,hlabp]at this;omega
   have hdeed:Y.cell? ⟨b,3+kn,none⟩ = some (.func (.func F) #[] #[]):=by
    have:Y.cell? ⟨b,3+kn,none⟩ = X.cell? ⟨b,3+kn,none⟩:=by simp only[World.cell?,hYk _ hpb]
    rw[this,hdeed];rfl
   have hYz:Y.heap.size=w.heap.size+1:=by rw[hY];simpa[World.setCell]using hXz
   have HKY:=hid (show Kp ow j w Y from ((Kp.of (show Below w.heap.size w X from (by rw[HV.out]at HBX;exact (below_drewN' (below_drewN' (Below.refl _ _))).trans (HBX.out.mono (Nat.le_refl _))))).trans (.refl _ _) (hbY.kp (by intro l hl;simp at hl;unfold Mine;omega))));have heg:=HEG.out;clear hY hbY hYe hYk d6 f6 hXz;refine wp_region_held_drew (S:=jg (fun k off=>(k=p∧off=0)∨(k=b∧3≤off)∨k=w.heap.size) Y) (by kernel_rfl) (fun _ _ _=>rfl) (fun hSw=>?_);refine tH 0 (.pointer (some ⟨p,0,none⟩)) hSw ?_;(try simp only[nS]);refine tH 1 (.pointer (some ⟨p,0,none⟩)) hSw ?_;(try simp only[nS]);refine tH 2 (.pointer (some ⟨p,0,none⟩)) hSw ?_;(try simp only[nS]);refine tG 3 (.pointer (some ⟨b,0,none⟩)) hSw (fun W hW=>?_) ?_
   · have d0:=hW.cell (by first|omega|(dsimp only;omega)) d0
     first|(go_simp;done)|rfl
   (try simp only[nS]);refine tH 4 (.pointer (some ⟨w.heap.size,0,none⟩)) hSw ?_;(try simp only[nS]);refine tG 5 (.int .u8 (kn:Int)) hSw (fun W hW=>?_) ?_
   · have i0:=hW.cell (by first|omega|(dsimp only;omega)) i0
     first|(go_simp;done)|rfl
   (try simp only[nS]);refine tH 6 (.pointer (some ⟨b,0,none⟩)) hSw ?_;(try simp only[nS]);refine tH 7 (.pointer (some ⟨b,3,none⟩)) hSw ?_;(try simp only[nS]);refine tG 8 (.pointer (some ⟨b,3+kn,none⟩)) hSw (fun W hW=>?_) ?_
   · go_simp;exact fun h=>absurd h (by omega)
   (try simp only[nS]);refine tG 9 (.func (.func F) #[] #[]) hSw (fun W hW=>?_) ?_
   · have hdeed:=hW.cell (by first|omega|(dsimp only;omega)) hdeed
     first|(go_simp;done)|rfl
   (try simp only[nS]);refine tH 10 (.pointer (some ⟨p,0,none⟩)) hSw ?_;(try simp only[nS]);refine tG 11 (.agg #[.int .u8 (kn:Int),.int .u8 o,.int .i64 a,.int .i64 bb,.int .i64 cc,.int .i64 x]) hSw (fun W hW=>?_) ?_
   · have i0:=hW.cell (by first|omega|(dsimp only;omega)) i0
     have i1:=hW.cell (by first|omega|(dsimp only;omega)) i1;have i2:=hW.cell (by first|omega|(dsimp only;omega)) i2;have i3:=hW.cell (by first|omega|(dsimp only;omega)) i3;have i4:=hW.cell (by first|omega|(dsimp only;omega)) i4;have i5:=hW.cell (by first|omega|(dsimp only;omega)) i5
     first|(go_simp;done)|rfl
   (try simp only[nS]);refine tR 12 (fun K hK=>?_);clear hSw;go_simp;refine (HCF.out ow Y.drew v rs us ts ws (H1Y.out.keeps (But.of (ls:=[]) (below_drewN' (Below.refl _ _))) (.refl _ _) (by simp) (by simp)) (H2Y.out.keeps (But.of (ls:=[]) (below_drewN' (Below.refl _ _))) (.refl _ _) (by simp))).mono ?_;rintro e w2 hE;obtain⟨r,hr⟩:=(show ∃ r,e = .returned (.bool r)from⟨_,hE.1⟩)
   subst hr;have HE:=hid hE;obtain⟨_,ow',v2,rs2,us2,ts2,ws2,he,g1,g2,g3⟩:=hE
   have hS2:jg (fun k off=>(k=p∧off=0)∨(k=b∧3≤off)∨k=w.heap.size) Y w2:=by
    rintro k off (⟨rfl,rfl⟩|⟨rfl,h3⟩|rfl)
    · rw[d0];exact g2.cells.1
    · rw[Lib.cell_of_heap g1.box,Lib.cell_of_heap H1Y.out.box]
      obtain⟨q,rfl⟩:∃ q,off=q+1+1+1:=⟨off - 3,by omega⟩
      simp only[wK,List.getElem?_toArray,List.getElem?_cons_succ]
    · have hk3:w2.heap[w.heap.size]? = Y.heap[w.heap.size]?:=g3.block w.heap.size (show w.heap.size<Y.heap.size by omega) (by rw[hnew _ (Nat.le_refl _)];unfold Mine;omega)
      simp only[World.cell?,hk3]
   clear he g1 g2 g3;refine hK.out _ _ (hS2) (fun hSw=>?_);clear hK K;(try simp only[nS]);refine tH 13 (.bool r) hSw ?_;(try simp only[nS]);refine wpAnyH_done (by kernel_rfl) ?_ _;go_wp2_with fail;go_ret;rw[HNX.out];exact HE.out.after HKY.out.drew (.refl _ _)
theorem Xl (ow:Nat→Nat) (w:World) (B b j p n:Nat) (g:Gr) (W:WS) (T:TS) (v rs us ts ws:Value) (bk:Bk) (h1:WAt ow w b W n v) (h2:TAt ow w b j p g T rs us ts ws) (hB:B≤w.heap.size) (hlow:∀ k,k<B→ow k=0) (hg:GIn w B g)
 (hbk:g.blocks[T.bi]? = some bk) (hii:T.ii≤bk.ins.length) (hfit:∀ i ∈ bk.ins,Fits T.regs.length i) (hlast:qL T.regs.length g.blocks.length bk) (hsafe:Safe W T) :
 Calls Tryz.prog 192 #[.pointer (some ⟨p,0,none⟩)] w (zN ow b j p g n (ww g W T) w):=
 (VP (low ow w.heap.size) w B b j p n g W T v rs us ts ws bk h1.low h2.low hB (fun k hk=>kv _ _ _ hk) hg hbk hii hfit hlast hsafe).mono fun _ _ h=>h.relab (j6 _ _)
end
open Go Go.Lib Go.RowKit
structure GOk (g:Gr):Prop where
 first:0<g.blocks.length
 fit:∀ bk ∈ g.blocks,∀ i ∈ bk.ins,Fits g.refs.length i
 last:∀ bk ∈ g.blocks,qL g.refs.length g.blocks.length bk
structure TOk (g:Gr) (T:TS):Prop where
 regs:T.regs.length=g.refs.length
 bi:T.bi<g.blocks.length
 ii:∀ bk,g.blocks[T.bi]? = some bk→T.ii≤bk.ins.length
structure Mid (g:Gr) (L n:Nat) (W:WS) (T:TS):Prop where
 ok:TOk g T
 un:UOk T.undo T.since W.words.length
 und:T.undo.length+n≤1048576
 out:T.told.length+T.waiting.length+n≤1048576
 l0:L≤W.words.length
 l1:1≤L
 cut:Un.cut ∈ T.undo→T.inside=true∧L≤T.since
def Rest (T:TS) (n:Nat):Prop:=∀ u ∈ T.undo,∃ a x,u=Un.put a x∧a<n
structure Still (g:Gr) (n:Nat) (W:WS) (T:TS):Prop where
 ok:TOk g T
 und:T.undo.length+n≤1048576
 out:T.told.length+T.waiting.length+n≤1048576
 rest:T.fin=0→Rest T W.words.length
theorem UOk.rest:∀ {l:List Un} {s n:Nat},UOk l s n→Un.cut ∉ l→∀ u ∈ l,∃ a x,u=Un.put a x∧a<n:=by
 intro l;induction l with
 | nil=>intro s n _ _ u hu;simp at hu
 | cons v l ih =>
  intro s n h hc u hu;cases v with
  | cut=>exact absurd (List.mem_cons_self) hc
  | put a x =>
   rcases List.mem_cons.1 hu with rfl|hu
   · exact⟨a,x,rfl,h.1⟩
   · exact ih h.2 (fun q=>hc (List.mem_cons_of_mem _ q)) u hu
theorem WY:∀ {l:List Un} {s n:Nat},(∀ u ∈ l,∃ a x,u=Un.put a x∧a<n)→UOk l s n:=by
 intro l;induction l with
 | nil=>intro s n _;exact trivial
 | cons v l ih =>
  intro s n h;obtain⟨a,x,rfl,ha⟩:=h v (List.mem_cons_self);exact⟨ha,ih (fun u hu=>h u (List.mem_cons_of_mem _ hu))⟩
theorem UOk.more:∀ {l:List Un} {s n m:Nat},UOk l s n→n≤m→UOk l s m:=by
 intro l;induction l with
 | nil=>intro s n m _ _;exact trivial
 | cons v l ih =>
  intro s n m h hm;cases v with
  | cut=>exact⟨⟨h.1.1,Nat.le_trans h.1.2 hm⟩,h.2⟩
  | put a x=>exact⟨Nat.lt_of_lt_of_le h.1 hm,ih h.2 hm⟩
theorem XA:∀ (l:List Un) (W:WS) (T:TS) (L:Nat),UOk l T.since W.words.length→(Un.cut ∈ l→L≤T.since)→L≤W.words.length→L≤(zW l W T).1.words.length:=by
 intro l;induction l with
 | nil=>intro W T L _ _ h;exact h
 | cons u l ih =>
  intro W T L h hc hL;rw[qM];have hs:=(Z4 u W T).1;refine ih _ _ L h.step (fun q=>by rw[hs];exact hc (List.mem_cons_of_mem _ q)) ?_;cases u with
  | put a x=>simpa[unA]using hL
  | cut =>
   have:=hc (List.mem_cons_self);simp only[unA,List.length_take];omega
structure After (g:Gr) (L n:Nat) (r:WS × TS × Bool):Prop where
 on:r.2.2=false→Mid g L n r.1 r.2.1
 off:r.2.2=true→Still g n r.1 r.2.1
 l0:L≤r.1.words.length
theorem After.on' {g:Gr} {L n:Nat} {W:WS} {T:TS} (h:Mid g L n W T):After g L n (W,T,false):=⟨fun _=>h,fun q=>(by cases q),h.l0⟩
theorem Mid.fail {g:Gr} {L n:Nat} {W:WS} {T:TS} (h:Mid g L n W T) (e:Int) (he:e≠0):After g L n (yN W T e):=by
 obtain⟨f1,f2,f3,f4,f5,f6,f7⟩:=XB T.undo W T;refine⟨fun q=>(by cases q),fun _=>⟨⟨?_, ?_, ?_⟩, ?_, ?_,fun q=>absurd q he⟩,XA _ _ _ _ h.un (fun q=>(h.cut q).2) h.l0⟩
 · show (zW T.undo W T).2.regs.length=_;rw[f4];exact h.ok.regs
 · show (zW T.undo W T).2.bi<_;rw[f6];exact h.ok.bi
 · intro bk hbk
   have hbk2:g.blocks[(zW T.undo W T).2.bi]? = some bk:=hbk;show (zW T.undo W T).2.ii≤_
   rw[f6]at hbk2;rw[f7];exact h.ok.ii bk hbk2
 · show (zW T.undo W T).2.undo.length+n≤_;rw[f2];exact h.und
 · show (zW T.undo W T).2.told.length+(zW T.undo W T).2.waiting.length+n≤_;rw[f3];have:=h.out;omega
theorem Mid.less {g:Gr} {L n m:Nat} {W:WS} {T:TS} (h:Mid g L n W T) (hm:m≤n):Mid g L m W T:=⟨h.ok,h.un,by have:=h.und;omega,by have:=h.out;omega,h.l0,h.l1,h.cut⟩
theorem Mid.setR {g:Gr} {L n:Nat} {W:WS} {T:TS} (h:Mid g L n W T) (a x:Int):Mid g L n W (T.setR a x):=⟨⟨by simpa[TS.setR]using h.ok.regs,h.ok.bi,h.ok.ii⟩,h.un,h.und,h.out,h.l0,h.l1,h.cut⟩
theorem Mid.own {g:Gr} {L n:Nat} {W:WS} {T:TS} (h:Mid g L n W T) (i:In):Mid g L n (yQ W T i) T:=by
 have hw:(yQ W T i).words=W.words:=by unfold yQ;split <;> rfl
 exact⟨h.ok,by rw[hw];exact h.un,h.und,h.out,by rw[hw];exact h.l0,h.l1,h.cut⟩
theorem Mid.load {g:Gr} {L n:Nat} {W:WS} {T:TS} (h:Mid g L n W T) (i:In):After g L n (loadT W T i):=by
 unfold loadT;split
 · exact .on' (h.setR _ _)
 · exact h.fail 8 (by decide)
theorem KE {W:WS} {a:Int} (h:yM W a=true):a.toNat<W.words.length:=by
 unfold yM at h;simp only[Bool.and_eq_true,decide_eq_true_eq]at h;omega
theorem Mid.store {g:Gr} {L n:Nat} {W:WS} {T:TS} (h:Mid g L (n+1) W T) (i:In):After g L n (storeT W T i):=by
 unfold storeT;split
 · rename_i hh
   have hl:=KE hh;refine .on' ⟨⟨h.ok.regs,h.ok.bi,h.ok.ii⟩, ?_,by have:=h.und;simp;omega,by have:=h.out;simp;omega,by simpa using h.l0,h.l1,fun q=>?_⟩
   · simp only[List.length_set]
     exact⟨hl,h.un⟩
   · rcases List.mem_cons.1 q with q|q
     · cases q
     · exact h.cut q
 · exact (h.less (Nat.le_succ n)).fail 8 (by decide)
theorem After.ite {g:Gr} {L n:Nat} {c:Prop} [Decidable c] {a b:WS × TS × Bool} (h1:c→After g L n a) (h2:¬c→After g L n b):After g L n (if c then a else b):=by
 by_cases h:c
 · rw[if_pos h];exact h1 h
 · rw[if_neg h];exact h2 h
theorem UOk.again:∀ {l:List Un} {s n m:Nat},UOk l s n→n≤m→UOk l m m:=by
 intro l;induction l with
 | nil=>intro s n m _ _;exact trivial
 | cons v l ih =>
  intro s n m h hm;cases v with
  | cut=>exact⟨⟨by have:=h.1;omega,Nat.le_refl _⟩,ih h.2 (by have:=h.1;omega)⟩
  | put a x=>exact⟨Nat.lt_of_lt_of_le h.1 hm,ih h.2 hm⟩
theorem Mid.deed {g:Gr} {L n:Nat} {W:WS} {T:TS} (h:Mid g L (n+1) W T) (i:In) (hn:i.k=7→0≤i.n):After g L n (yB W T i):=by
 have hl:=h.less (Nat.le_succ n);have hok:TOk g T:=h.ok;unfold yB;refine .ite (fun _=>.on' (hl.setR _ _)) fun _=>?_
 refine .ite (fun _=>.on' (hl.setR _ _)) fun _=>?_
 refine .ite (fun _=>.ite (fun _=>.on' (hl.setR _ _)) fun _=>hl.fail 2 (by decide)) fun _=>?_
 refine .ite (fun _=>.ite (fun _=>hl.fail 3 (by decide)) fun _=>.on' hl) fun _=>?_
 refine .ite (fun _=>.ite (fun _=>hl.fail 4 (by decide)) fun _=>.on' hl) fun _=>?_
 refine .ite (fun _=>.ite (fun _=>hl.fail 5 (by decide)) fun _=>?_) fun _=>?_
 · refine .on' ⟨⟨by simpa[TS.setR]using h.ok.regs,h.ok.bi,h.ok.ii⟩, ?_,hl.und,hl.out,by have:=h.l0;simp;omega,h.l1,h.cut⟩
   exact h.un.more (by simp)
 refine .ite (fun _=>hl.load i) fun _=>?_
 refine .ite (fun _=>h.store i) fun _=>?_
 refine .ite (fun _=>(hl.own i).load i) fun _=>?_
 refine .ite (fun _=>(h.own i).store i) fun _=>?_
 refine .ite (fun _=>.ite (fun _=>?_) fun hin=>?_) fun _=>?_
 · exact .on' ⟨⟨h.ok.regs,h.ok.bi,h.ok.ii⟩,h.un,hl.und,by have:=h.out;simp;omega,h.l0,h.l1,h.cut⟩
 · have hnc:Un.cut ∉ T.undo:=fun q=>hin (h.cut q).1
   exact⟨fun q=>(by cases q),fun _=>⟨⟨h.ok.regs,h.ok.bi,h.ok.ii⟩,hl.und,by have:=h.out;simp;omega,fun _=>h.un.rest hnc⟩,h.l0⟩
 refine .ite (fun _=>?_) fun _=>?_
 · refine .on' ⟨⟨h.ok.regs,h.ok.bi,h.ok.ii⟩, ?_,by have:=h.und;simp;omega,hl.out,h.l0,h.l1,fun _=>⟨rfl,h.l0⟩⟩
   exact⟨⟨Nat.le_trans h.l1 h.l0,Nat.le_refl _⟩,h.un.again (Nat.le_refl _)⟩
 · exact⟨fun q=>(by cases q),fun _=>⟨⟨h.ok.regs,h.ok.bi,h.ok.ii⟩,by have:=h.und;simp;omega,hl.out,fun _ u hu=>by simp at hu⟩,h.l0⟩
theorem Mid.last {g:Gr} {L n:Nat} {W:WS} {T:TS} (h:Mid g L n W T) (bk:Bk) (hl:qL T.regs.length g.blocks.length bk) (hfin:(lastT T bk).2=true→(lastT T bk).1.fin≠0):After g L n (W,(lastT T bk).1,(lastT T bk).2):=by
 by_cases h3:bk.last=3
 · have e:lastT T bk=({ T with fin:=1 },true):=by simp[lastT,h3]
   rw[e];exact⟨fun q=>(by cases q),fun _=>⟨⟨h.ok.regs,h.ok.bi,h.ok.ii⟩,h.und,h.out,fun q=>by cases q⟩,h.l0⟩
 · have key:∀ x:Int,yj g.blocks.length x→After g L n (W,{ T with bi:=x.toNat,ii:=0 },false):=fun x hx=>.on' ⟨⟨h.ok.regs,by unfold yj at hx;simp only;omega,fun bk _=>Nat.zero_le _⟩,h.un,h.und,h.out,h.l0,h.l1,h.cut⟩
   by_cases h2:bk.last=2∧T.reg bk.reg=0
   · have e:lastT T bk=({ T with bi:=bk.no.toNat,ii:=0 },false):=by simp[lastT,h2]
     rw[e];exact key _ (hl.no h2.1)
   · have e:lastT T bk=({ T with bi:=bk.yes.toNat,ii:=0 },false):=by simp only[lastT];rw[if_neg h3,if_neg h2]
     rw[e];exact key _ (hl.yes h3)
theorem JQ (T:TS) (bk:Bk):(lastT T bk).2=true→(lastT T bk).1.fin≠0:=by
 unfold lastT;split
 · intro _ q;cases q
 · split
   · intro q;cases q
   · intro q;cases q
theorem Mid.next {g:Gr} {L n:Nat} {W:WS} {T:TS} (hg:GOk g) (h:Mid g L (n+1) W T):After g L n (ww g W T):=by
 obtain⟨bk,hbk⟩:∃ bk,g.blocks[T.bi]? = some bk:=⟨_,List.getElem?_eq_getElem h.ok.bi⟩
 have hm:bk ∈ g.blocks:=List.mem_of_getElem? hbk;unfold ww;rw[hbk];dsimp only;cases hi:bk.ins[T.ii]? with
 | none=>exact (h.less (Nat.le_succ n)).last bk (by rw[h.ok.regs];exact hg.last bk hm) (JQ T bk)
 | some i =>
  have hlt:=(List.getElem?_eq_some_iff.1 hi).1;have h':Mid g L (n+1) W { T with ii:=T.ii+1 }:=⟨⟨h.ok.regs,h.ok.bi,fun bk' hb'=>by rw[show g.blocks[T.bi]? = some bk' from hb']at hbk;cases hbk;exact hlt⟩,h.un,h.und,h.out,h.l0,h.l1,h.cut⟩
  exact h'.deed i (fun q=>((hg.fit bk hm i (List.mem_of_getElem? hi)).n q).1)
theorem Mid.go {g:Gr} {L:Nat} (hg:GOk g):∀ (n:Nat) {W:WS} {T:TS},Mid g L n W T→((goT g n W T).2.2.2=true→Still g (goT g n W T).1 (goT g n W T).2.1 (goT g n W T).2.2.1)∧L≤(goT g n W T).2.1.words.length∧(goT g n W T).1≤n:=by
 intro n;induction n with
 | zero=>intro W T h;exact⟨fun q=>(by cases q),h.l0,Nat.le_refl _⟩
 | succ n ih =>
  intro W T h;have ha:=h.next hg;rw[goT];generalize ww g W T=r at ha;obtain⟨W',T',b⟩:=r;cases b with
  | true=>exact⟨fun _=>ha.off rfl,ha.l0,Nat.le_succ n⟩
  | false =>
   obtain⟨i1,i2,i3⟩:=ih (ha.on rfl);exact⟨i1,i2,Nat.le_succ_of_le i3⟩
theorem Still.mid {g:Gr} {n:Nat} {W:WS} {T:TS} (h:Still g n W T) (hf:T.fin=0) (h1:1≤W.words.length):Mid g W.words.length n W T:=
 ⟨h.ok,WY (h.rest hf),h.und,h.out,Nat.le_refl _,h1,fun q=>by obtain⟨a,x,e,_⟩:=h.rest hf _ q;cases e⟩
theorem Still.leap {g:Gr} {n:Nat} {W:WS} {T:TS} (hg:GOk g) (h:Still g n W T) (h1:1≤W.words.length) :
 ((zA g n W T).2.2.2=true→Still g (zA g n W T).1 (zA g n W T).2.1 (zA g n W T).2.2.1)∧W.words.length≤(zA g n W T).2.1.words.length∧(zA g n W T).1≤n:=by
 unfold zA;split
 · rename_i x r hx
   exact⟨fun _=>⟨⟨h.ok.regs,h.ok.bi,h.ok.ii⟩,h.und,by have:=h.out;rw[hx]at this;simp at this ⊢;omega,h.rest⟩,Nat.le_refl _,Nat.le_refl _⟩
 · split
   · exact⟨fun _=>h,Nat.le_refl _,Nat.le_refl _⟩
   · rename_i hf
     exact (h.mid (by omega) h1).go hg n
theorem Still.other {g:Gr} {n m:Nat} {W W':WS} {T:TS} (h:Still g n W T) (hm:m≤n) (hw:W.words.length≤W'.words.length):Still g m W' T:=
 ⟨h.ok,by have:=h.und;omega,by have:=h.out;omega,fun hf u hu=>by obtain⟨a,x,e,ha⟩:=h.rest hf u hu;exact⟨a,x,e,Nat.lt_of_lt_of_le ha hw⟩⟩
