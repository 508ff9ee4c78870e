import Derived.Test.YtlboinokdhmacaaGreatDoorRwDo
import Derived.Test.YtlboinokdhmacaaGreatDoorRlIns
namespace Go.Proofs.YtlboinokdhmacaaGreatDoor
set_option maxHeartbeats 64000000
set_option maxRecDepth 1000000
open Lib(hid)
open Go.RowKit
attribute [local go_sem ↓] zL zJ
theorem QW.grow {ow:Nat→Nat} {w:World} {b:Nat} {wd:Int} {tv tw:Value} {W:WS} {n:Int} {v:Value} (h1:QW ow w b wd tv tw W n v) (m:Nat) (hm:m≤64) (hl:W.words.length+m≤65537) :
 ∃ v' w2,(Builtin.append_ #[85,2] 85 #[v,.int .i64 (m:Int)]).run Tryz.prog w = .ok v' w2∧w2.cell? ⟨b,2,none⟩ = some v∧w2.frozen? ⟨b,2,none⟩ = false∧b<w2.heap.size∧But ow [2] w w2 ∧
  ∃ ow',Ext ow ow' w∧QW ow' (w2.setCell ⟨b,2,none⟩ v') b wd tv tw { W with words:=W.words++List.replicate m 0 } n v'∧But ow [1,2] w (w2.setCell ⟨b,2,none⟩ v'):=by
 have hmany:=h1.many;obtain⟨v',w2,hr,hown,hg,hgo⟩:=X0 w v W.words 85 m (by omega) hmany.2 h1.row;obtain⟨ow',how⟩:∃ ow',ow'=fun k=>if k<w.heap.size then ow k else 2:=⟨_,rfl⟩
 have hext:Ext ow ow' w:=by rw[how];exact jI
 have hbw:b<w.heap.size:=z8 h1.box;have hbl:But ow [2] w w2:=⟨hg.os,hg.tape,hg.output,hg.size,fun k hk hn=>hg.block k hk (fun q=>hn (by rw[h1.labr k q.symm];simp))⟩
 have hbox2:=(hbl.block b hbw (by rw[h1.lab];simp)).trans h1.box
 have hlab2:∀ k,v'.ownBlock=some k→ow' k=2:=fun k hk=>by
  rcases hgo with q|q
  · rw[hext k (h1.row.lt k (q.symm.trans hk)).2];exact h1.labr k (q.symm.trans hk)
  · rw[hk]at q;cases q;rw[how];simp
 have hlb:ow' b=1:=by rw[hext b hbw];exact h1.lab
 have hne:v'.ownBlock≠some b:=fun q=>by have:=hlab2 b q;omega
 refine⟨v',w2,hr,zh hbox2 2 _ rfl,Lib.frozen_of_heap hbox2 2,z8 hbox2,hbl,ow',hext,⟨?_, ?_,hlb,hlab2, ?_⟩, ?_⟩
 · rw[heap_setCell_same w2 b 2 _ _ _ hbox2];rfl
 · refine hown.kept (row:=some b) ⟨rfl,rfl,rfl,by simp[World.setCell],fun k _ hk=>Below.heap_setCell _ _ _ _ (by rintro rfl;exact hk rfl)⟩ (.inr hne)
 · show 1≤(W.words++List.replicate m 0).length∧(W.words++List.replicate m 0).length≤65537
   simp;omega
 · exact (show But ow [1,2] w w2 from⟨hbl.os,hbl.tape,hbl.output,hbl.size,fun k hk hn=>hbl.block k hk (fun q=>hn (by simp at q ⊢;exact .inr q))⟩).set (p:=⟨b,2,none⟩) (by rw[h1.lab];simp) v'
theorem QW.slice {ow:Nat→Nat} {w:World} {b:Nat} {wd:Int} {tv tw:Value} {W:WS} {n:Int} {v:Value} (h:QW ow w b wd tv tw W n v):∃ q c,v = .slice q W.words.length c:=by
 rcases h.row.2 with ⟨e,e2⟩|⟨g,cap,cur,e,_⟩
 · exact⟨none,0,by rw[e,e2]⟩
 · exact⟨_,_,e⟩
theorem qdo_7 {ow:Nat→Nat} {w:World} {b:Nat} {wd:Int} {tv tw:Value} {W:WS} {n:Int} {v:Value} {tb o j:Nat} {T:RT} {rs ws os:Value} (h1:QW ow w b wd tv tw W n v) (h2:QT ow w tb o j T rs ws os) (hnew:∀ k,w.heap.size≤k→ow k=0) (op:Int) (aa:Nat) (ha:aa<T.regs.length) (bq:Int) (c:Int) (x:Int) (hx:0≤x∧x≤64) (mark:Nat) :
 Calls Tryz.prog 197 #[.pointer (some ⟨b,0,none⟩),.pointer (some ⟨tb,o,none⟩),.agg #[.int .u8 7,.int .u8 op,.int .i64 (aa:Int),.int .i64 bq,.int .i64 c,.int .i64 x],.int .i64 (mark:Int)] w (QDo ow b wd tv tw n tb o j rs ws os (doR W T ⟨7,op,(aa:Int),bq,c,x⟩ mark) w):=by
 obtain⟨U,hU⟩:∃ U,U=w.alloc (.cells #[.int .u8 7,.int .u8 op,.int .i64 (aa:Int),.int .i64 bq,.int .i64 c,.int .i64 x] 159):=⟨_,rfl⟩
 have hBU:Below w.heap.size w U:=by rw[hU];exact ze w _
 have hO:U.heap[w.heap.size]? = some (.cells #[.int .u8 7,.int .u8 op,.int .i64 (aa:Int),.int .i64 bq,.int .i64 c,.int .i64 x] 159 (0,0)):=by rw[hU];exact (MapKept.heap_alloc _ _).1
 have h1U:=h1.keeps (But.of (ls:=[]) hBU) (.refl _ _) (by simp) (by simp);have h2U:=h2.keeps (But.of (ls:=[]) hBU) (.refl _ _) (by simp) (by simp) (by simp) (by simp);have H1U:=hid h1U;have H2U:=hid h2U;have HNW:=hid hnew;have HO:=hid hO;have HBU:=hid hBU;have HU:=hid hU;have HBB:=hid (But.of (ow:=ow) (ls:=[]) hBU);obtain⟨htb,-,-,d2,-,-,-⟩:=h2U.cells;obtain⟨rg,er,hrg,hrl⟩:=h2U.regs;have hrgl:=z8 hrg;have HER:=hid er;have HRG:=hid hrg;rw[er]at d2;obtain⟨NR,hNR⟩:∃ N,N=T.regs.length:=⟨_,rfl⟩
 rw[←hNR]at d2;obtain⟨i0,i1,i2,i3,i4,i5⟩:=zl hO;have hlx:=z8 hO;have HNR:=hid hNR;have HAA:=hid ha;have ha1:aa<NR:=by rw[hNR];exact ha
 clear h1 h2 hU hBU hO h1U h2U er hrg hrl hNR hnew ha;have c0:=i0;have c1:=i1;have c2:=i2;have c3:=i3;have c4:=i4;have c5:=i5;rw[HU.out]at i0 i1 i2 i3 i4 i5;go_enter Tryz.func197,Tryz.ntmps197;go_wp2_with fail;have hl4u:=H1U.out.many;obtain⟨vq,vc,ev⟩:=H1U.out.slice;have hq:=zh H1U.out.box 2 v rfl;have hlb:=z8 H1U.out.box;have HEV:=hid ev;rw[ev]at hq;obtain⟨NW,hNW⟩:∃ N,N=W.words.length:=⟨_,rfl⟩
 rw[←hNW]at hq hl4u HEV;have HNWW:=hid hNW;have HX:=hid hx
 have w1:IntKind.i64.wrap ((NW:Int) - 1)=(NW:Int) - 1:=by
  have:=IntWalk.i64_in ((NW:Int) - 1) (by omega);exact this
 have w2':IntKind.i64.wrap ((NW:Int) - 1+x)=(NW:Int) - 1+x:=IntWalk.i64_in _ (by omega);clear ev hNW hx;rw[←HU.out]
 by_cases he:65536<(NW:Int) - 1+x
 · have HY:=hid (show doR W T ⟨7,op,(aa:Int),bq,c,x⟩ mark=(W,T,(5:Int))from by
    have h:65536<(W.words.length:Int) - 1+x:=by rw[←HNWW.out];exact he
    simp[doR,h])
   have hd:decide (65536<(NW:Int) - 1+x)=true:=by simpa using he
   replace he:=hid he
   go_quiet (fail)
   go_wp2_with fail;go_ret;rw[HY.out];have hb5:Below U.heap.size U (U.drewN nq):=below_drewN (Below.refl _ _) nq;exact⟨rfl,ow,v,.refl _ _,H1U.out.keeps (But.of (ls:=[]) hb5) (.refl _ _) (by simp) (by simp),H2U.out.keeps (But.of (ls:=[]) hb5) (.refl _ _) (by simp) (by simp) (by simp) (by simp),zw (zi (l:=[]) (m:=[1,2,10+8*j]) HBB.out (by simp)) (zi (l:=[]) (m:=[1,2,10+8*j]) (But.of hb5) (by simp))⟩
 · have HML:=hid (show W.words.length+x.toNat≤65537 from by have:=HX.out;rw[←HNWW.out];omega)
   have HY:=hid (show doR W T ⟨7,op,(aa:Int),bq,c,x⟩ mark=({ W with words:=W.words++List.replicate x.toNat 0 },T.setR (aa:Int) (NW:Int),(0:Int))from by
    have h:¬ 65536<(W.words.length:Int) - 1+x:=by rw[←HNWW.out];exact he
    simp[doR,h,HNWW.out])
   have hd:decide (65536<(NW:Int) - 1+x)=false:=by simpa using he
   replace he:=hid he
   go_quiet (fail)
   go_wp2_with fail;obtain⟨w3,hw3⟩:∃ w3,w3=U.drewN nq:=⟨_,rfl⟩
   rw[←hw3];have hb3:Below U.heap.size U w3:=by rw[hw3];exact below_drewN (Below.refl _ _) nq
   refine yJ 12 (by kernel_rfl) (by kernel_rfl) (fun w4 hw4=>?_);have hb4:Below U.heap.size U w4:=hb3.trans ((db hw4).mono hb3.size);have HB4:=hid (zw (zi (l:=[]) (m:=[1,2,10+8*j]) HBB.out (by simp)) (zi (l:=[]) (m:=[1,2,10+8*j]) (But.of hb4) (by simp)));have h14:=H1U.out.keeps (But.of (ls:=[]) hb4) (.refl _ _) (by simp) (by simp);have h24:=H2U.out.keeps (But.of (ls:=[]) hb4) (.refl _ _) (by simp) (by simp) (by simp) (by simp);have hx4:=(hb4.block w.heap.size hlx).trans HO.out;have hl4:=z8 hx4;obtain⟨q0,q1,q2,q3,q4,q5⟩:=zl hx4;obtain⟨htb4,-,-,d24,-,-,-⟩:=h24.cells;have hrg4:=(hb4.block rg hrgl).trans HRG.out;have hrgl4:=z8 hrg4;obtain⟨z4,hz4⟩:∃ z,T.regs[aa]? = some z:=⟨_,List.getElem?_eq_getElem HAA.out⟩
   have t1:=zT hrg4 aa z4 hz4;have f1:=Lib.frozen_of_heap hrg4 aa;have hq4:=zh h14.box 2 v rfl;rw[HEV.out]at hq4;have hlb4:=z8 h14.box;have HX4:=hid hx4;rw[HER.out,←HNR.out]at d24;have HR:=hid (h24.setR HER.out aa (NW:Int));have H14:=hid h14;clear w1 w2' hd hq hlb;clear hw4 hb4 hb3 hw3 h14 h24 hx4 hrg4 hz4 htb d2 hrgl hlx c0 c1 c2 c3 c4 c5
   try clear s1
   try clear s2
   simp only[List.take_succ_cons,List.take_zero,List.drop_succ_cons,List.drop_zero]
   repeat still_step
   refine wpStill_nil ?_;go_wp2_with fail;clear q0 q1 q2 q3 q4 q5 d24 t1 f1 hq4;obtain⟨w6,hw6⟩:∃ w6,w6=w4.setCell ⟨rg,aa,none⟩ (.int .i64 (NW:Int)):=⟨_,rfl⟩
   rw[←hw6];rw[←hw6]at HR;have H16:=hid (H14.out.keeps HR.out.2 (.refl _ _) (by simp;omega) (by simp;omega));have hx6:=(HR.out.2.block w.heap.size (by exact z8 HX4.out) (by rw[HNW.out _ (Nat.le_refl _)];simp;omega)).trans HX4.out;have HB6:=hid (zw HB4.out (zi HR.out.2 (by simp)));clear hw6;obtain⟨w7,hw7⟩:∃ w7,w7=w6.drew:=⟨_,rfl⟩
   have hb7:=db hw7;have h17:=H16.out.keeps (But.of (ls:=[]) hb7) (.refl _ _) (by simp) (by simp);have h27:=HR.out.1.keeps (But.of (ls:=[]) hb7) (.refl _ _) (by simp) (by simp) (by simp) (by simp);have HB7:=hid (zw HB6.out (zi (l:=[]) (m:=[1,2,10+8*j]) (But.of hb7) (by simp)));obtain⟨q0,q1,q2,q3,q4,q5⟩:=zl hx6;have hl7:w.heap.size<w6.heap.size:=z8 hx6;have hq7:=zh H16.out.box 2 v rfl;rw[HEV.out]at hq7;have hlb7:=z8 H16.out.box;obtain⟨m,hm⟩:∃ m:Nat,x=(m:Int):=⟨x.toNat,by have:=HX.out;omega⟩
   subst hm;obtain⟨v',w8,hrun,hc8,hf8,hl8,hbl8,ow',hext,hqw,hbt⟩:=h17.grow m (by have:=HX.out;omega) (by have:=HML.out;omega);obtain⟨vq',vc',ev'⟩:=hqw.slice;obtain⟨nl,hnl⟩:∃ nl,nl=({ W with words:=W.words++List.replicate m 0 }:WS).words.length:=⟨_,rfl⟩
   rw[←hnl]at ev';subst ev';rw[HEV.out]at hrun hc8;have HRUN:=hid hrun;have HQW:=hid hqw;have HBT:=hid hbt;have HEX:=hid hext;have H27:=hid h27;have HSZ:=hid (show w.heap.size≤w7.heap.size from by have:=hb7.size;omega);have HW7:=hid hw7
   have HS8:=hid (show ∀ k,(k=b∨k=w.heap.size)→w8.heap[k]? = w6.heap[k]? from fun k hk=>by
    have e:w7.heap[k]? = w6.heap[k]?:=by rw[hw7];rfl
    rw[←e];rcases hk with rfl|rfl
    · exact hbl8.block _ (z8 h17.box) (by rw[h17.lab];simp)
    · exact hbl8.block _ (Nat.lt_of_lt_of_le hl7 hb7.size) (by rw[HNW.out _ (Nat.le_refl _)];simp))
   clear hbl8;clear hw7 hb7 h17 h27 hx6 hrun hext hqw hbt hnl;refine yO (S:=zn (fun k=>k=b∨k=w.heap.size) w6) (fun j=>decide (8≤j)) (by kernel_rfl) (zn.drew _ _) (fun hSw=>?_);rw[←HW7.out];rw[←HW7.out]at hSw;refine lH 0 (.pointer (some ⟨b,0,none⟩)) hSw ?_;(try simp only[nS]);refine lH 1 (.pointer (some ⟨b,0,none⟩)) hSw ?_;(try simp only[nS]);refine lH 2 (.pointer (some ⟨b,0,none⟩)) hSw ?_;(try simp only[nS]);refine lH 3 (.pointer (some ⟨b,0+2,none⟩)) hSw ?_;(try simp only[nS]);refine lG 4 (.slice vq NW vc) hSw (fun W hW=>?_) ?_
   · have hq7:=hW.cell (by dsimp only;omega) hq7
     first|(go_simp;done)|rfl
   (try simp only[nS]);refine lH 5 (.pointer (some ⟨w.heap.size,0+5,none⟩)) hSw ?_;(try simp only[nS]);refine lG 6 (.int .i64 (m:Int)) hSw (fun W hW=>?_) ?_
   · have q5:=hW.cell (by dsimp only;omega) q5
     first|(go_simp;done)|rfl
   (try simp only[nS]);refine lR 7 (fun J hK=>?_);clear hSw;refine Lib.wp_append_run _ _ _ _ _ rfl _ _ rfl rfl _ _ HRUN.out ?_;refine hK.out _ _ (fun k hk=>HS8.out k hk) (fun hSw=>?_);clear hK J;(try simp only[nS]);refine yP (rs:=[8]) (by kernel_rfl) (by simp) (by rfl) ?_;refine oR 8 (fun J hK=>?_);go_simp;refine hK.out _ _ ?_;clear hK J;(try simp only[nS]);refine oR 9 (fun J hK=>?_);go_simp;refine hK.out _ _ ?_;clear hK J;(try simp only[nS]);refine oR 10 (fun J hK=>?_);go_simp;refine hK.out _ _ ?_;clear hK J;(try simp only[nS]);refine wpAny_done (by kernel_rfl) ?_ _;go_wp2_with fail;go_ret;rw[HY.out];refine⟨rfl,ow',.slice vq' nl vc',fun k hk=>HEX.out k (Nat.lt_of_lt_of_le hk HSZ.out), ?_,H27.out.keeps HBT.out HEX.out (by simp) (by simp;omega) (by simp;omega) (by simp;omega),zw HB7.out (zi HBT.out (by simp))⟩;rw[Int.toNat_natCast];exact HQW.out
theorem Jf {w:World} {B c m:Nat} {g:Gr} {W:Int} {M:List Bool} (h:zG w B c m g W M) (ia:Option Addr) (il ic N:Nat) (hN:g.blocks.length=N) (iv:Value) (ins:List In) (r y z:Int) :
 Calls Tryz.prog 217 #[.pointer (some ⟨c,0,none⟩),.agg #[.slice ia il ic,.int .u8 1,.int .i64 r,.int .i64 y,.int .i64 z]] w fun e w'=>e = .returned (.bool (zX g.refs N ⟨iv,ins,1,r,y,z⟩))∧Below w.heap.size w w':=by
 obtain⟨U,hU⟩:∃ U,U=w.alloc (.cells #[.slice ia il ic,.int .u8 1,.int .i64 r,.int .i64 y,.int .i64 z] 118):=⟨_,rfl⟩
 have hBU:Below w.heap.size w U:=by rw[hU];exact ze w _
 have hO:U.heap[w.heap.size]? = some (.cells #[.slice ia il ic,.int .u8 1,.int .i64 r,.int .i64 y,.int .i64 z] 118 (0,0)):=by rw[hU];exact (MapKept.heap_alloc _ _).1
 have HN:=hid (fun r=>wN (h.keeps hBU) r);obtain⟨bo,bcp,eb,hbl,-⟩:=h.here.blies.form;rw[hN]at eb hbl;have hq:=(h.keeps hBU).box;rw[eb]at hq;obtain⟨p0,p1,p2,p3,p4⟩:=zx hq;obtain⟨q0,q1,q2,q3,q4⟩:=zx hO;have hlc:=(h.keeps hBU).lt.1;have HB:=hid hBU;have HU:=hid hU;rw[hU]at q0 q1 q2 q3 q4 p0 p1 p2 p3 p4 hlc;clear hBU hO hU h hq eb hN
 by_cases h0:r=0
 · have d0a:(r==0)=true:=by simpa using h0
   have d0b:(r != 0)=false:=by simpa using h0
   replace h0:=hid h0
   by_cases h1:z=0
   · have d1a:(z==0)=true:=by simpa using h1
     have d1b:(z != 0)=false:=by simpa using h1
     replace h1:=hid h1
     by_cases h2:0≤y
     · have d2a:decide (0≤y)=true:=by simpa using h2
       replace h2:=hid h2
       by_cases h3:y<(N:Int)
       · have d3a:decide (y<(N:Int))=true:=by simpa using h3
         replace h3:=hid h3
         have HY:=hid (show zX g.refs N ⟨iv,ins,1,r,y,z⟩ = true from by simp[zX,h0.out,h1.out,h2.out,h3.out]);go_enter Tryz.func217,Tryz.ntmps217;go_wp2_with fail;go_ret;exact⟨by rw[HY.out];rfl,by rw[←HU.out];exact HB.out⟩
       · have d3a:decide (y<(N:Int))=false:=by simpa using h3
         replace h3:=hid h3
         have HY:=hid (show zX g.refs N ⟨iv,ins,1,r,y,z⟩ = false from by simp[zX,h0.out,h1.out,h2.out,h3.out]);go_enter Tryz.func217,Tryz.ntmps217;go_wp2_with fail;go_ret;exact⟨by rw[HY.out];rfl,by rw[←HU.out];exact HB.out⟩
     · have d2a:decide (0≤y)=false:=by simpa using h2
       replace h2:=hid h2
       have HY:=hid (show zX g.refs N ⟨iv,ins,1,r,y,z⟩ = false from by simp[zX,h0.out,h1.out,h2.out]);go_enter Tryz.func217,Tryz.ntmps217;go_wp2_with fail;go_ret;exact⟨by rw[HY.out];rfl,by rw[←HU.out];exact HB.out⟩
   · have d1a:(z==0)=false:=by simpa using h1
     have d1b:(z != 0)=true:=by simpa using h1
     replace h1:=hid h1
     have HY:=hid (show zX g.refs N ⟨iv,ins,1,r,y,z⟩ = false from by simp[zX,h0.out,h1.out]);go_enter Tryz.func217,Tryz.ntmps217;go_wp2_with fail;go_ret;exact⟨by rw[HY.out];rfl,by rw[←HU.out];exact HB.out⟩
 · have d0a:(r==0)=false:=by simpa using h0
   have d0b:(r != 0)=true:=by simpa using h0
   replace h0:=hid h0
   have HY:=hid (show zX g.refs N ⟨iv,ins,1,r,y,z⟩ = false from by simp[zX,h0.out]);go_enter Tryz.func217,Tryz.ntmps217;go_wp2_with fail;go_ret;exact⟨by rw[HY.out];rfl,by rw[←HU.out];exact HB.out⟩
theorem Je {w:World} {B c m:Nat} {g:Gr} {W:Int} {M:List Bool} (h:zG w B c m g W M) (ia:Option Addr) (il ic N:Nat) (hN:g.blocks.length=N) (iv:Value) (ins:List In) (r y z:Int) :
 Calls Tryz.prog 217 #[.pointer (some ⟨c,0,none⟩),.agg #[.slice ia il ic,.int .u8 2,.int .i64 r,.int .i64 y,.int .i64 z]] w fun e w'=>e = .returned (.bool (zX g.refs N ⟨iv,ins,2,r,y,z⟩))∧Below w.heap.size w w':=by
 obtain⟨U,hU⟩:∃ U,U=w.alloc (.cells #[.slice ia il ic,.int .u8 2,.int .i64 r,.int .i64 y,.int .i64 z] 118):=⟨_,rfl⟩
 have hBU:Below w.heap.size w U:=by rw[hU];exact ze w _
 have hO:U.heap[w.heap.size]? = some (.cells #[.slice ia il ic,.int .u8 2,.int .i64 r,.int .i64 y,.int .i64 z] 118 (0,0)):=by rw[hU];exact (MapKept.heap_alloc _ _).1
 have HN:=hid (fun r=>wN (h.keeps hBU) r);obtain⟨bo,bcp,eb,hbl,-⟩:=h.here.blies.form;rw[hN]at eb hbl;have hq:=(h.keeps hBU).box;rw[eb]at hq;obtain⟨p0,p1,p2,p3,p4⟩:=zx hq;obtain⟨q0,q1,q2,q3,q4⟩:=zx hO;have hlc:=(h.keeps hBU).lt.1;have HB:=hid hBU;have HU:=hid hU;rw[hU]at q0 q1 q2 q3 q4 p0 p1 p2 p3 p4 hlc;clear hBU hO hU h hq eb hN;cases h0:yE g.refs r with
 | false =>
  have HY:=hid (show zX g.refs N ⟨iv,ins,2,r,y,z⟩ = false from by simp[zX,h0]);go_enter Tryz.func217,Tryz.ntmps217;go_wp2_with fail;rw[←HU.out];rw[←HU.out]at q0 q1 q2 q3 q4 p0 p1 p2 p3 p4;refine (HN.out _).mono ?_;rintro e w' ⟨rfl,rfl⟩;rw[h0];go_wp2_with fail;go_ret;exact⟨by rw[HY.out];rfl,HB.out⟩
 | true =>
  by_cases h1:0≤y
  · have d1a:decide (0≤y)=true:=by simpa using h1
    replace h1:=hid h1
    by_cases h2:y<(N:Int)
    · have d2a:decide (y<(N:Int))=true:=by simpa using h2
      replace h2:=hid h2
      by_cases h3:0≤z
      · have d3a:decide (0≤z)=true:=by simpa using h3
        replace h3:=hid h3
        by_cases h4:z<(N:Int)
        · have d4a:decide (z<(N:Int))=true:=by simpa using h4
          replace h4:=hid h4
          have HY:=hid (show zX g.refs N ⟨iv,ins,2,r,y,z⟩ = true from by simp[zX,h0,h1.out,h2.out,h3.out,h4.out]);go_enter Tryz.func217,Tryz.ntmps217;go_wp2_with fail;rw[←HU.out];rw[←HU.out]at q0 q1 q2 q3 q4 p0 p1 p2 p3 p4;refine (HN.out _).mono ?_;rintro e w' ⟨rfl,rfl⟩;rw[h0];go_wp2_with fail;go_ret;exact⟨by rw[HY.out];rfl,HB.out⟩
        · have d4a:decide (z<(N:Int))=false:=by simpa using h4
          replace h4:=hid h4
          have HY:=hid (show zX g.refs N ⟨iv,ins,2,r,y,z⟩ = false from by simp[zX,h0,h1.out,h2.out,h3.out,h4.out]);go_enter Tryz.func217,Tryz.ntmps217;go_wp2_with fail;rw[←HU.out];rw[←HU.out]at q0 q1 q2 q3 q4 p0 p1 p2 p3 p4;refine (HN.out _).mono ?_;rintro e w' ⟨rfl,rfl⟩;rw[h0];go_wp2_with fail;go_ret;exact⟨by rw[HY.out];rfl,HB.out⟩
      · have d3a:decide (0≤z)=false:=by simpa using h3
        replace h3:=hid h3
        have HY:=hid (show zX g.refs N ⟨iv,ins,2,r,y,z⟩ = false from by simp[zX,h0,h1.out,h2.out,h3.out]);go_enter Tryz.func217,Tryz.ntmps217;go_wp2_with fail;rw[←HU.out];rw[←HU.out]at q0 q1 q2 q3 q4 p0 p1 p2 p3 p4;refine (HN.out _).mono ?_;rintro e w' ⟨rfl,rfl⟩;rw[h0];go_wp2_with fail;go_ret;exact⟨by rw[HY.out];rfl,HB.out⟩
    · have d2a:decide (y<(N:Int))=false:=by simpa using h2
      replace h2:=hid h2
      have HY:=hid (show zX g.refs N ⟨iv,ins,2,r,y,z⟩ = false from by simp[zX,h0,h1.out,h2.out]);go_enter Tryz.func217,Tryz.ntmps217;go_wp2_with fail;rw[←HU.out];rw[←HU.out]at q0 q1 q2 q3 q4 p0 p1 p2 p3 p4;refine (HN.out _).mono ?_;rintro e w' ⟨rfl,rfl⟩;rw[h0];go_wp2_with fail;go_ret;exact⟨by rw[HY.out];rfl,HB.out⟩
  · have d1a:decide (0≤y)=false:=by simpa using h1
    replace h1:=hid h1
    have HY:=hid (show zX g.refs N ⟨iv,ins,2,r,y,z⟩ = false from by simp[zX,h0,h1.out]);go_enter Tryz.func217,Tryz.ntmps217;go_wp2_with fail;rw[←HU.out];rw[←HU.out]at q0 q1 q2 q3 q4 p0 p1 p2 p3 p4;refine (HN.out _).mono ?_;rintro e w' ⟨rfl,rfl⟩;rw[h0];go_wp2_with fail;go_ret;exact⟨by rw[HY.out];rfl,HB.out⟩
theorem Jd {w:World} {B c m:Nat} {g:Gr} {W:Int} {M:List Bool} (h:zG w B c m g W M) (ia:Option Addr) (il ic N:Nat) (hN:g.blocks.length=N) (iv:Value) (ins:List In) (r y z:Int) :
 Calls Tryz.prog 217 #[.pointer (some ⟨c,0,none⟩),.agg #[.slice ia il ic,.int .u8 3,.int .i64 r,.int .i64 y,.int .i64 z]] w fun e w'=>e = .returned (.bool (zX g.refs N ⟨iv,ins,3,r,y,z⟩))∧Below w.heap.size w w':=by
 obtain⟨U,hU⟩:∃ U,U=w.alloc (.cells #[.slice ia il ic,.int .u8 3,.int .i64 r,.int .i64 y,.int .i64 z] 118):=⟨_,rfl⟩
 have hBU:Below w.heap.size w U:=by rw[hU];exact ze w _
 have hO:U.heap[w.heap.size]? = some (.cells #[.slice ia il ic,.int .u8 3,.int .i64 r,.int .i64 y,.int .i64 z] 118 (0,0)):=by rw[hU];exact (MapKept.heap_alloc _ _).1
 have HN:=hid (fun r=>wN (h.keeps hBU) r);obtain⟨bo,bcp,eb,hbl,-⟩:=h.here.blies.form;rw[hN]at eb hbl;have hq:=(h.keeps hBU).box;rw[eb]at hq;obtain⟨p0,p1,p2,p3,p4⟩:=zx hq;obtain⟨q0,q1,q2,q3,q4⟩:=zx hO;have hlc:=(h.keeps hBU).lt.1;have HB:=hid hBU;have HU:=hid hU;rw[hU]at q0 q1 q2 q3 q4 p0 p1 p2 p3 p4 hlc;clear hBU hO hU h hq eb hN
 by_cases h0:r=0
 · have d0a:(r==0)=true:=by simpa using h0
   have d0b:(r != 0)=false:=by simpa using h0
   replace h0:=hid h0
   by_cases h1:y=0
   · have d1a:(y==0)=true:=by simpa using h1
     have d1b:(y != 0)=false:=by simpa using h1
     replace h1:=hid h1
     by_cases h2:z=0
     · have d2a:(z==0)=true:=by simpa using h2
       have d2b:(z != 0)=false:=by simpa using h2
       replace h2:=hid h2
       have HY:=hid (show zX g.refs N ⟨iv,ins,3,r,y,z⟩ = true from by simp[zX,h0.out,h1.out,h2.out]);go_enter Tryz.func217,Tryz.ntmps217;go_wp2_with fail;go_ret;exact⟨by rw[HY.out];rfl,by rw[←HU.out];exact HB.out⟩
     · have d2a:(z==0)=false:=by simpa using h2
       have d2b:(z != 0)=true:=by simpa using h2
       replace h2:=hid h2
       have HY:=hid (show zX g.refs N ⟨iv,ins,3,r,y,z⟩ = false from by simp[zX,h0.out,h1.out,h2.out]);go_enter Tryz.func217,Tryz.ntmps217;go_wp2_with fail;go_ret;exact⟨by rw[HY.out];rfl,by rw[←HU.out];exact HB.out⟩
   · have d1a:(y==0)=false:=by simpa using h1
     have d1b:(y != 0)=true:=by simpa using h1
     replace h1:=hid h1
     have HY:=hid (show zX g.refs N ⟨iv,ins,3,r,y,z⟩ = false from by simp[zX,h0.out,h1.out]);go_enter Tryz.func217,Tryz.ntmps217;go_wp2_with fail;go_ret;exact⟨by rw[HY.out];rfl,by rw[←HU.out];exact HB.out⟩
 · have d0a:(r==0)=false:=by simpa using h0
   have d0b:(r != 0)=true:=by simpa using h0
   replace h0:=hid h0
   have HY:=hid (show zX g.refs N ⟨iv,ins,3,r,y,z⟩ = false from by simp[zX,h0.out]);go_enter Tryz.func217,Tryz.ntmps217;go_wp2_with fail;go_ret;exact⟨by rw[HY.out];rfl,by rw[←HU.out];exact HB.out⟩
theorem Jb {w:World} {B c m:Nat} {g:Gr} {W:Int} {M:List Bool} (h:zG w B c m g W M) (ia:Option Addr) (il ic N:Nat) (hN:g.blocks.length=N) (iv:Value) (ins:List In) (k r y z:Int) (hk:k<1∨3<k) :
 Calls Tryz.prog 217 #[.pointer (some ⟨c,0,none⟩),.agg #[.slice ia il ic,.int .u8 k,.int .i64 r,.int .i64 y,.int .i64 z]] w fun e w'=>e = .returned (.bool (zX g.refs N ⟨iv,ins,k,r,y,z⟩))∧Below w.heap.size w w':=by
 obtain⟨U,hU⟩:∃ U,U=w.alloc (.cells #[.slice ia il ic,.int .u8 k,.int .i64 r,.int .i64 y,.int .i64 z] 118):=⟨_,rfl⟩
 have hBU:Below w.heap.size w U:=by rw[hU];exact ze w _
 have hO:U.heap[w.heap.size]? = some (.cells #[.slice ia il ic,.int .u8 k,.int .i64 r,.int .i64 y,.int .i64 z] 118 (0,0)):=by rw[hU];exact (MapKept.heap_alloc _ _).1
 have HN:=hid (fun r=>wN (h.keeps hBU) r);obtain⟨bo,bcp,eb,hbl,-⟩:=h.here.blies.form;rw[hN]at eb hbl;have hq:=(h.keeps hBU).box;rw[eb]at hq;obtain⟨p0,p1,p2,p3,p4⟩:=zx hq;obtain⟨q0,q1,q2,q3,q4⟩:=zx hO;have hlc:=(h.keeps hBU).lt.1;have HB:=hid hBU;have HU:=hid hU;rw[hU]at q0 q1 q2 q3 q4 p0 p1 p2 p3 p4 hlc;clear hBU hO hU h hq eb hN;have d1:(k==1)=false:=by simp;omega
 have d2:(k==2)=false:=by simp;omega
 have d3:(k==3)=false:=by simp;omega
 have HY:=hid (show zX g.refs N ⟨iv,ins,k,r,y,z⟩ = false from by
  unfold zX;dsimp only
  repeat' split
  all_goals first|rfl|omega)
 clear hk;go_enter Tryz.func217,Tryz.ntmps217;go_wp2_with fail;go_ret;exact⟨by rw[HY.out];rfl,by rw[←HU.out];exact HB.out⟩
