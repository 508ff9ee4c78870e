import Derived.Test.YtlboinokdhmacaaGreatDoorBqLookW
namespace Go.Proofs.YtlboinokdhmacaaGreatDoor
set_option maxHeartbeats 64000000
set_option maxRecDepth 1000000
open Lib(hid)
open Go.RowKit
attribute [local go_sem ↓] zL zJ
theorem Vg (B:Nat) (c:Cd) (w:World) (pv:Value) (picks:List Int) (fuel:Int) (hI:CIn w B c) (hBw:B≤w.heap.size) (hP:zB xh 1 w B pv picks) (hno:zV c.words c.threads picks.length fuel=0) :
 Calls Tryz.prog 9 #[.agg #[.int .i64 c.words,c.tv],pv,.int .i64 fuel] w (jO c picks fuel w):=by
 obtain⟨pq,pc,epv,hpl,hpg⟩:=hP.form;have hproom:=hP.room;obtain⟨bo,bcp,eb,hbl,hbg⟩:=hI.tlies.form;subst epv;obtain⟨np,hnp⟩:∃ n,n=picks.length:=⟨_,rfl⟩
 obtain⟨W1,hW1⟩:∃ W1,W1=(w.alloc (.cells #[.int .i64 c.words,c.tv] 24)).alloc (.cells #[.slice none 0 0,.bool false,.bool false] 32):=⟨_,rfl⟩
 have z1:(w.alloc (.cells #[.int .i64 c.words,c.tv] 24)).heap.size=w.heap.size+1:=by simp
 have hz1:W1.heap.size=w.heap.size+2:=by rw[hW1];simp
 have hB1:Below w.heap.size w W1:=by rw[hW1];exact (ze w _).alloc (by omega) _
 have hC1:W1.heap[w.heap.size]? = some (.cells #[.int .i64 c.words,c.tv] 24 (0,0)):=by rw[hW1,Below.heap_alloc _ _ _ (by omega)];exact (MapKept.heap_alloc _ _).1
 have hR1:W1.heap[w.heap.size+1]? = some (.cells #[.slice none 0 0,.bool false,.bool false] 32 (0,0)):=by rw[hW1,←z1];exact (MapKept.heap_alloc _ _).1
 unfold jO;rw[←hnp]at hno hproom hpl hpg ⊢
 have hck:(xW c.words c.threads).2.2=0∧1≤fuel∧fuel≤1048576∧np≤65536:=by
  have hrf0:=hno;unfold zV at hrf0;split at hrf0
  · cases hrf0
  · rename_i h1
    split at hrf0
    · cases hrf0
    · split at hrf0
      · cases hrf0
      · exact⟨by simpa using h1,by omega,by omega,by omega⟩
 have HCK:=hid hck;have HRF:=hid (Zv B c W1 (hI.keeps (hB1.mono hBw)) (Nat.le_trans hBw hB1.size));obtain⟨ER,hER⟩:∃ e,e=zV c.words c.threads np fuel:=⟨_,rfl⟩
 rw[←hER]at hno ⊢;obtain⟨PP,hPP⟩:∃ x,x=zz c.threads picks (RS0 c.words c.threads fuel.toNat):=⟨_,rfl⟩
 rw[←hPP];have HPP:=hid hPP;clear hPP;have HNO:=hid hno;have HER:=hid hER;have HR1:=hid hR1;have HB1:=hid hB1;have e30:=zH 32 #[] #[.slice none 0 0,.bool false,.bool false] (by kernel_rfl);obtain⟨q0,q1⟩:=zt hC1;have HW1:=hid hW1;rw[hW1]at q0 q1;rw[eb]at HRF q0 q1 HW1 ⊢;have hz1':w.heap.size+1<W1.heap.size:=by omega
 have HPG:=hid hpg;have HNPP:=hid hnp;have HI:=hid hI;have HP:=hid hP;have HBW:=hid hBw;have HC1:=hid hC1;have HEB:=hid eb;clear hck;clear hI hP hB1 hC1 hR1 hW1 hz1 z1 hbg hpg hnp eb hbl hBw hER hno;go_enter Tryz.func9,Tryz.ntmps9;go_wp2_with fail;rw[←HW1.out];refine HRF.out.mono ?_;rintro e w2 ⟨⟨t,a,b',x,rfl,hx⟩,hb2⟩;have HX:=hid hx;have HB2:=hid (HB1.out.trans (hb2.mono HB1.out.size));have hR2:=(hb2.block (w.heap.size+1) hz1').trans HR1.out;have HR2:=hid hR2;have HC2:=hid ((hb2.block w.heap.size (by have:=HB1.out.size;omega)).trans HC1.out);clear hb2 hx q0 q1;obtain⟨s0,s1,s2⟩:=xU hR2;have f0:=Lib.frozen_of_heap hR2 0;have f1:=Lib.frozen_of_heap hR2 1;have f2:=Lib.frozen_of_heap hR2 2;have hlr:=z8 hR2;clear hR2;obtain rfl:x=0:=HX.out.2 HCK.out.1;have hC2:=(HB2.out.size)
 have e1:((0:Int) != 0)=false:=by decide
 have e2:decide (fuel<1)=false:=by have:=HCK.out.2.1;simp;omega
 have e3:decide ((65536:Int)<(np:Int))=false:=by have:=HCK.out.2.2.2;simp;omega
 have e3':decide (65536<np)=false:=by have:=HCK.out.2.2.2;simp;omega
 have e4:decide ((1048576:Int)<fuel)=false:=by have:=HCK.out.2.2.1;simp;omega
 go_wp2_with fail;obtain⟨V0,hV0⟩:∃ V0,V0=w2.alloc (.cells #[.int .i64 a,.int .i64 b'] 92):=⟨_,rfl⟩
 rw[←hV0];have hb0:Below w2.heap.size w2 V0:=by rw[hV0];exact ze w2 _
 have hx0:=(hb0.block w.heap.size (by have:=z8 HC2.out;omega)).trans HC2.out;rw[HEB.out]at hx0;have hl0:=z8 hx0;obtain⟨q0,q1⟩:=zt hx0;obtain⟨WD,hWD⟩:∃ x,x=c.words:=⟨_,rfl⟩
 obtain⟨N,hN⟩:∃ N,N=c.threads.length:=⟨_,rfl⟩
 rw[←hWD]at q0;rw[←hN]at q1;obtain⟨k0,k1,k2,k3⟩:=uG HCK.out.1;obtain⟨NW,hNW⟩:∃ NW:Nat,(NW:Int)=WD+1:=⟨(WD+1).toNat,by omega⟩
 have hw8:wrap64 (WD+1)=(NW:Int):=by rw[hNW];exact (ji _).symm.trans (IntWalk.i64_in _ (by omega))
 have hw9:IntKind.i64.wrap (WD+1)=(NW:Int):=(ji _).trans hw8;have emk:=jy NW (by omega);have HNW:=hid hNW;have HKK:=hid (And.intro k0 (And.intro k1 (And.intro k2 k3)));have ebld:=fun (q:Option Addr)=>zH 98 #[(0,.agg #[.int .i64 WD,.slice bo N bcp]),(1,.slice q NW NW),(3,.int .i64 fuel)] #[.int .i64 WD,.slice bo N bcp,.slice q NW NW,.slice none 0 0,.int .i64 fuel,.bool false] (by kernel_rfl)
 obtain⟨V1,hV1⟩:∃ V1,V1=V0.drew:=⟨_,rfl⟩
 have HV1:=hid hV1
 have HS2:=hid (show ∀ k,k=w.heap.size→(V1.alloc (.cells (wds (List.replicate NW 0)).toArray 2)).heap[k]? = V0.heap[k]? from fun k hk=>by
  rw[Below.heap_alloc _ _ _ (by rw[hV1];show k<V0.heap.size;omega),hV1];rfl)
 have HS3:=hid (show ∀ k,k=w.heap.size→((V1.alloc (.cells (wds (List.replicate NW 0)).toArray 2)).alloc (.cells #[.int .i64 WD,.slice bo N bcp,.slice (some ⟨V1.heap.size,0,none⟩) NW NW,.slice none 0 0,.int .i64 fuel,.bool false] 98)).heap[k]? = V0.heap[k]? from fun k hk=>by
  have hz:(V1.alloc (.cells (wds (List.replicate NW 0)).toArray 2)).heap.size=V0.heap.size+1:=by rw[hV1];simp
  rw[Below.heap_alloc _ _ _ (by omega)];exact HS2.out k hk)
 have HWN:=hid (And.intro hWD hN);clear hV1 hNW k0 k1 k2 k3 hWD hN;refine wp_region_held_drew (S:=zn (fun x=>x=w.heap.size) V0) (by kernel_rfl) (zn.drew _ _) (fun hSw=>?_);rw[←HV1.out];rw[←HV1.out]at hSw;refine tG 0 (.agg #[.int .i64 WD,.slice bo N bcp]) hSw (fun W hW=>?_) ?_
 · have q0:=hW.cell (by first|rfl|omega|(dsimp only;omega)) q0
   have q1:=hW.cell (by first|rfl|omega|(dsimp only;omega)) q1
   first|(go_simp;done)|rfl
 (try simp only[nS]);refine tH 1 (.pointer (some ⟨w.heap.size,0,none⟩)) hSw ?_;(try simp only[nS]);refine tG 2 (.int .i64 WD) hSw (fun W hW=>?_) ?_
 · have q0:=hW.cell (by first|rfl|omega|(dsimp only;omega)) q0
   first|(go_simp;done)|rfl
 (try simp only[nS]);refine tH 3 (.int .i64 (NW:Int)) hSw ?_;(try simp only[nS]);refine tH 5 (.int .i64 fuel) hSw ?_;(try simp only[nS]);refine tR 4 (fun K hK=>?_);clear hSw;go_simp;refine hK.out _ _ (fun x hx=>HS2.out x hx) (fun hSw=>?_);clear hK K;(try simp only[nS]);refine tH 6 (.agg #[.int .i64 WD,.slice bo N bcp,.slice (some ⟨V1.heap.size,0,none⟩) NW NW,.slice none 0 0,.int .i64 fuel,.bool false]) hSw ?_;(try simp only[nS]);refine tR 7 (fun K hK=>?_);clear hSw;go_simp;refine hK.out _ _ (fun x hx=>HS3.out x hx) (fun hSw=>?_);clear hK K;(try simp only[nS]);refine tH 8 (.pointer (some ⟨V1.heap.size+1,0,none⟩)) hSw ?_;(try simp only[nS]);refine wpAnyH_done (by kernel_rfl) ?_ _;obtain⟨V3,hV3⟩:∃ V3,V3=(V1.alloc (.cells (wds (List.replicate NW 0)).toArray 2)).alloc (.cells #[.int .i64 WD,.slice bo N bcp,.slice (some ⟨V1.heap.size,0,none⟩) NW NW,.slice none 0 0,.int .i64 fuel,.bool false] 98):=⟨_,rfl⟩
 have hzm:(V1.alloc (.cells (wds (List.replicate NW 0)).toArray 2)).heap.size=V1.heap.size+1:=by simp
 have hMK:MkQ V1.heap.size V3 (V1.heap.size+1) V1.heap.size WD (.slice bo N bcp) (.slice none 0 0) (.slice (some ⟨V1.heap.size,0,none⟩) NW NW) fuel NW c.threads []:=
  { box:=by rw[hV3,←hzm];exact (MapKept.heap_alloc _ _).1,ev:=rfl,mem:=by rw[hV3,Below.heap_alloc _ _ _ (by omega)];exact (MapKept.heap_alloc V1 _).1,lb:=by omega,lm:=by omega,row:=by rw[List.zip_nil_right];exact World.ownsRow_nil _ _ _ _,len:=by simp,regs:=fun i rg g hi _=>by simp at hi,dist:=by simp }
 have HMK:=hid hMK;have HB3:=hid (show Below V1.heap.size V1 V3 from by rw[hV3];exact (ze V1 _).alloc (by omega) _);have HV3:=hid hV3;have HEBL:=hid ebld;clear hMK hzm hV3 ebld emk hw8 hw9 hSw;rw[←HV3.out];go_wp2_with fail
 go_loopw [12] (fun q wr=>∃ rgs tw,q = .int .i64 ((rgs:List Nat).length:Int)∧MkQ V1.heap.size wr (V1.heap.size+1) V1.heap.size WD (.slice bo N bcp) tw (.slice (some ⟨V1.heap.size,0,none⟩) NW NW) fuel NW c.threads rgs∧Below V1.heap.size V1 wr) (fun q _=>N - (intOf q).toNat)
 case atStart=>exact⟨[],_,rfl,HMK.out,HB3.out⟩
 case round =>
  obtain⟨rgs,tw,rfl,hM,hBr⟩:=hrel;have hl0r:=Nat.lt_of_lt_of_le hl0 (by rw[HV1.out]at hBr;exact hBr.size:V0.heap.size≤wr.heap.size);have hxc:wr.heap[w.heap.size]? = V0.heap[w.heap.size]?:=(hBr.block _ (by rw[HV1.out];exact hl0)).trans (by rw[HV1.out];rfl);have q0:=(show wr.cell? ⟨w.heap.size,0,none⟩ = V0.cell? ⟨w.heap.size,0,none⟩by simp only[World.cell?,hxc]).trans q0;have q1:=(show wr.cell? ⟨w.heap.size,1,none⟩ = V0.cell? ⟨w.heap.size,1,none⟩by simp only[World.cell?,hxc]).trans q1;have HM:=hid hM;have HBR:=hid hBr;have hkN:rgs.length≤N:=by rw[HWN.out.2];exact hM.len
  obtain⟨k,hk⟩:∃ k,k=rgs.length:=⟨_,rfl⟩
  rw[←hk]at hkN ⊢;have HK:=hid hk;clear hM hBr hxc hk;have hN4:N≤4:=by rw[HWN.out.2];exact HKK.out.2.2.1
  by_cases hlt:k<N
  · obtain⟨g,hg⟩:∃ g,c.threads[rgs.length]? = some g:=⟨_,List.getElem?_eq_getElem (by rw[←HK.out,←HWN.out.2];exact hlt)⟩
    have hN0:0<c.threads.length:=by rw[←HWN.out.2];omega
    obtain⟨gt,goff,gc,hGA⟩:=Yv HI.out (fun g hg=>(kF HCK.out.1 g hg).2) hN0
    obtain rfl:bo=some ⟨gt,goff,none⟩:=by
     have h:=HEB.out.symm.trans hGA.etv;injection h
    obtain⟨g0,-,-,hgi⟩:=hGA.cells _ g hg;rw[←HK.out]at g0;obtain⟨rq,rcp,erv,-,-⟩:=hgi.rlies.form;obtain⟨R,hR⟩:∃ R,R=g.refs.length:=⟨_,rfl⟩
    rw[erv,←hR]at g0;have hR4:R≤1024:=by rw[hR];exact (HKK.out.2.2.2 g (List.mem_of_getElem? hg)).2.1
    have hgtw:gt<w.heap.size:=Nat.lt_of_lt_of_le hGA.gtB HBW.out;have hV01:w2.heap.size≤V1.heap.size:=by rw[HV1.out];exact hb0.size
    have hgx:wr.heap[gt]? = w.heap[gt]?:=by
     have hw2:w.heap.size≤w2.heap.size:=HB2.out.size;have h1:=HBR.out.block gt (by omega);have h2:V1.heap[gt]? = w2.heap[gt]?:=by rw[HV1.out];exact hb0.block gt (by omega)
     exact h1.trans (h2.trans (HB2.out.block gt hgtw))
    have g0:=(uH hgx _).trans g0;have hgtr:gt<wr.heap.size:=by have:=HBR.out.size;have:=HB2.out.size;omega
    obtain⟨V6,hV6⟩:∃ V6,V6=wr.drew:=⟨_,rfl⟩
    have hM6:MkQ V1.heap.size V6 (V1.heap.size+1) V1.heap.size WD (.slice (some ⟨gt,goff,none⟩) N bcp) tw (.slice (some ⟨V1.heap.size,0,none⟩) NW NW) fuel NW c.threads rgs:=by
     rw[hV6];exact⟨HM.out.box,HM.out.ev,HM.out.mem,HM.out.lb,HM.out.lm,HM.out.row,HM.out.len,HM.out.regs,HM.out.dist⟩
    have hz6:V6.heap.size=wr.heap.size:=by rw[hV6];rfl
    have h6:∀ x:Nat,V6.heap[x]? = wr.heap[x]?:=fun x=>by rw[hV6];rfl
    obtain⟨gq,cap,w8,hrun,hb8,hbb,hMR⟩:=hM6.more (by rw[hz6];exact HBR.out.size) (by rw[←HWN.out.2];have:=HKK.out.2.2.1;rw[←HWN.out.2]at this;omega) hg;rw[←hR]at hrun;rw[←HK.out]at hrun hMR
    obtain⟨tq,tcp,etw⟩:∃ tq tc,tw = .slice tq k tc:=by
     rcases HM.out.row.2 with ⟨e,e0⟩|⟨g9,cap9,cur9,e,-⟩
     · exact⟨none,0,by rw[e,HK.out,e0]⟩
     · exact⟨_,_,by rw[e,HK.out]⟩
    subst etw;have d3:=zh HM.out.box 3 _ rfl;have hbox6:=hM6.box;have hbx8:=hbb.trans hbox6;have hf8:=Lib.frozen_of_heap hbx8 3;have hc8:=zh hbx8 3 _ rfl;have hl8:=z8 hbx8;have hlb:=z8 HM.out.box;have emk:=jy R (by omega);have ebl2:=fun (q:Option Addr)=>zH 101 #[(2,.slice q R R)] #[.int .i64 0,.int .i64 0,.slice q R R,.slice none 0 0,.slice none 0 0,.int .u8 0] (by kernel_rfl)
    have e3:=Qu;have HRUN:=hid (show (Builtin.append_ #[96,96] 96 #[.slice tq k tcp,.slice (some ⟨V6.heap.size+1,0,none⟩) 1 1]).run Tryz.prog ((V6.alloc (.cells (wds (List.replicate R 0)).toArray 2)).alloc (.cells #[.int .i64 0,.int .i64 0,.slice (some ⟨V6.heap.size,0,none⟩) R R,.slice none 0 0,.slice none 0 0,.int .u8 0] 101)) = .ok (.slice (some ⟨gq,0,none⟩) (k+1) cap) w8 from by rw[←hrun,hR];rfl);have HMR:=hid hMR;have hkey:∀ x,(x=w.heap.size∨x=V1.heap.size+1∨x=gt)→x<wr.heap.size:=fun x hx=>by have:=HBR.out.size;have:=HB2.out.size;rcases hx with h|h|h <;> omega
    have HS1:=hid (show ∀ x,(x=w.heap.size∨x=V1.heap.size+1∨x=gt)→(V6.alloc (.cells (wds (List.replicate R 0)).toArray 2)).heap[x]? = wr.heap[x]? from fun x hx=>by
     rw[Below.heap_alloc _ _ _ (by rw[hz6];exact hkey x hx)];exact h6 x)
    have HS2:=hid (show ∀ x,(x=w.heap.size∨x=V1.heap.size+1∨x=gt)→((V6.alloc (.cells (wds (List.replicate R 0)).toArray 2)).alloc (.cells #[.int .i64 0,.int .i64 0,.slice (some ⟨V6.heap.size,0,none⟩) R R,.slice none 0 0,.slice none 0 0,.int .u8 0] 101)).heap[x]? = wr.heap[x]? from fun x hx=>by
     have hz7:(V6.alloc (.cells (wds (List.replicate R 0)).toArray 2)).heap.size=V6.heap.size+1:=by simp
     rw[Below.heap_alloc _ _ _ (by have:=hkey x hx;omega)];exact HS1.out x hx)
    have HS3:=hid (show ∀ x,(x=w.heap.size∨x=V1.heap.size+1∨x=gt)→w8.heap[x]? = wr.heap[x]? from fun x hx=>by
     rcases hx with h|h|h
     · rw[hb8.block x (by have:=HB2.out.size;have:=z8 HC2.out;omega)];exact h6 x
     · rw[h,hbb];exact h6 _
     · rw[hb8.block x (by have:=HB2.out.size;omega)];exact h6 x)
    have HB8:=hid (show Below V1.heap.size V1 w8 from HBR.out.trans (by rw[hV6]at hb8;exact⟨hb8.os,hb8.tape,hb8.output,hb8.size,hb8.block⟩));have HV6:=hid hV6;have HR:=hid hR;clear hz6 hGA hgi erv hR hgx hV6 hM6 h6 hrun hb8 hbb hMR hbox6 hbx8 hkey hg;go_wp2_with fail;refine yO (S:=zn (fun x=>x=w.heap.size∨x=V1.heap.size+1∨x=gt) wr) (fun j=>decide (16≤j)) (by kernel_rfl) (zn.drew _ _) (fun hSw=>?_);rw[←HV6.out];rw[←HV6.out]at hSw;refine lH 0 (.pointer (some ⟨V1.heap.size+1,0,none⟩)) hSw ?_;(try simp only[nS]);refine lH 1 (.pointer (some ⟨V1.heap.size+1,0,none⟩)) hSw ?_;(try simp only[nS]);refine lH 2 (.pointer (some ⟨V1.heap.size+1,0,none⟩)) hSw ?_;(try simp only[nS]);refine lH 3 (.pointer (some ⟨V1.heap.size+1,0+3,none⟩)) hSw ?_;(try simp only[nS]);refine lG 4 (.slice tq k tcp) hSw (fun W hW=>?_) ?_
    · have d3:=hW.cell (by first|rfl|omega|(dsimp only;omega)) d3
      first|(go_simp;done)|rfl
    (try simp only[nS]);refine lH 5 (.pointer (some ⟨w.heap.size,0+1,none⟩)) hSw ?_;(try simp only[nS]);refine lG 6 (.slice (some ⟨gt,goff,none⟩) N bcp) hSw (fun W hW=>?_) ?_
    · have q1:=hW.cell (by first|rfl|omega|(dsimp only;omega)) q1
      first|(go_simp;done)|rfl
    (try simp only[nS]);refine lH 7 (.int .i64 (k:Int)) hSw ?_;(try simp only[nS]);refine lH 8 (.pointer (some ⟨gt,goff+k*3,none⟩)) hSw ?_;(try simp only[nS]);refine lH 9 (.pointer (some ⟨gt,goff+k*3,none⟩)) hSw ?_;(try simp only[nS]);refine lG 10 (.slice rq R rcp) hSw (fun W hW=>?_) ?_
    · have g0:=hW.cell (by first|rfl|omega|(dsimp only;omega)) g0
      first|(go_simp;done)|rfl
    (try simp only[nS]);refine lH 11 (.int .i64 (R:Int)) hSw ?_;(try simp only[nS]);refine lR 12 (fun J hK=>?_);clear hSw;go_simp;refine hK.out _ _ (fun x hx=>HS1.out x hx) (fun hSw=>?_);clear hK J;(try simp only[nS]);refine lH 13 (.agg #[.int .i64 0,.int .i64 0,.slice (some ⟨V6.heap.size,0,none⟩) R R,.slice none 0 0,.slice none 0 0,.int .u8 0]) hSw ?_;(try simp only[nS]);refine lR 14 (fun J hK=>?_);clear hSw;go_simp;refine hK.out _ _ (fun x hx=>HS2.out x hx) (fun hSw=>?_);clear hK J;(try simp only[nS]);refine lR 15 (fun J hK=>?_);clear hSw;refine Lib.wp_append_run _ _ _ _ _ rfl _ _ rfl rfl _ _ HRUN.out ?_;refine hK.out _ _ (fun x hx=>HS3.out x hx) (fun hSw=>?_);clear hK J;(try simp only[nS]);refine yP (rs:=[16]) (by kernel_rfl) (by simp) (by rfl) ?_;refine oR 16 (fun J hK=>?_);go_simp;refine hK.out _ _ ?_;clear hK J;(try simp only[nS]);refine oR 17 (fun J hK=>?_);go_simp;refine hK.out _ _ ?_;clear hK J;(try simp only[nS]);refine oR 18 (fun J hK=>?_);go_simp;refine hK.out _ _ ?_;clear hK J;(try simp only[nS]);refine wpAny_done (by kernel_rfl) ?_ _;go_wp2_with fail;go_roundw
    case rel=>exact⟨rgs++[V6.heap.size],_,by rw[List.length_append,List.length_singleton,←HK.out];go_num,HMR.out,HB8.out.setCell (by show V1.heap.size≤V1.heap.size+1;omega) _⟩
    case measure=>simp[intOf];omega
  · obtain rfl:N=k:=by omega
    have hRN:rgs.length=c.threads.length:=by rw[←HK.out,←HWN.out.2]
    obtain⟨n,hfn⟩:∃ n:Nat,fuel=(n:Int):=⟨fuel.toNat,by have:=HCK.out.2.1;omega⟩
    have hMn:=HM.out;rw[hfn]at hMn;obtain⟨ow0,tb,tc,hRun⟩:=hMn.run (w0:=V1) (B:=V1.heap.size) hRN (by have:=HNW.out;have:=HWN.out.1;have:=HKK.out.1;have:=HKK.out.2.1;omega) (by have:=HCK.out.2.2.1;omega) (Nat.le_refl _) (Nat.le_refl _) HBR.out (fun g hg=>(HKK.out.2.2.2 g hg).1.first)
    have hq0:(⟨n,⟨List.replicate NW 0,false⟩,c.threads.map RT0⟩:QS)=QS0 c.words c.threads fuel.toNat:=by
     unfold QS0;rw[hfn,Int.toNat_natCast,show c.words.toNat+1=NW by have:=HNW.out;have:=HWN.out.1;have:=HKK.out.1;omega]
    rw[hq0]at hRun;obtain⟨SX,BSX,hRR⟩:∃ sx bs,yU c.threads picks (QS0 c.words c.threads fuel.toNat)=(sx,bs):=⟨_,_,rfl⟩
    have ht:=WN (fun g hg=>(kF HCK.out.1 g hg).1) hRR;rw[←HPP.out]at ht;have HT:=hid ht;obtain⟨tq,etw,-⟩:=hRun.etw;rw[←HWN.out.2]at etw;subst etw;have hbV:Below w.heap.size w V1:=HB2.out.trans (by rw[HV1.out];exact (hb0.mono HB2.out.size).trans ⟨rfl,rfl,rfl,Nat.le_refl _,fun _ _=>rfl⟩);have HBV:=hid hbV
    have hRV:V1.heap[w.heap.size+1]? = some (.cells #[.slice none 0 0,.bool false,.bool false] 32 (0,0)):=by
     rw[HV1.out];exact (hb0.block _ (z8 HR2.out)).trans HR2.out
    have HRV:=hid hRV;have hIV:=(HI.out.up HBW.out).keeps hbV;have HIV:=hid (hIV.up hbV.size);have HST:=hid (And.intro hRR hRun);have hVw:w.heap.size+1<V1.heap.size:=z8 hRV;clear hRN hMn hRun hq0 hRR ht hbV hRV hIV hfn;go_wp2_with fail
    go_loopw [13] (fun q wr=>∃ (i:Nat) (s:QS) (ow:Nat→Nat) (v:Value),i≤np∧q = .int .i64 (i:Int)∧Hid (yU c.threads (picks.drop i) s=(SX,BSX)∧ve ow V1 wr V1.heap.size (V1.heap.size+1) WD (.slice bo N bcp) (.slice tq N tc) tb c.threads tc s v)) (fun q _=>np - (intOf q).toNat)
    case atStart=>exact⟨0,_,ow0,_,by omega,rfl,hid ⟨by rw[List.drop_zero];exact HST.out.1,HST.out.2⟩⟩
    case round =>
     obtain⟨i,s,ow,v,hip,rfl,hD⟩:=hrel;have hbox:=hD.out.2.qw.box;have d3:=zh hbox 3 _ rfl;have hlb:=z8 hbox;have hsz:=hD.out.2.bel.size
     by_cases hli:i<np
     · obtain⟨pg,poff,rfl,hpgB⟩:=HPG.out (by omega)
       have hkl:i<picks.length:=by rw[←HNPP.out];exact hli
       have hbw:Below w.heap.size w wr:=HBV.out.trans (hD.out.2.bel.mono HBV.out.size);have hpc:=((HP.out.below (hbw.mono HBW.out)).at rfl i hkl).2 0 _ rfl;rw[Nat.mul_one,Nat.add_zero]at hpc;have hpw:pg<wr.heap.size:=by have:=HBW.out;have:=hbw.size;omega
       have hdr:picks.drop i=picks[i] :: picks.drop (i+1):=List.drop_eq_getElem_cons hkl;obtain⟨x,hx⟩:∃ x,x=picks[i]:=⟨_,rfl⟩
       rw[←hx]at hpc hdr;have hrr:=hD.out.1;rw[hdr]at hrr;clear hdr hx hkl hbw hbox
       by_cases hout:x<0∨(N:Int)≤x
       · rw[WQ c.threads x _ s (by rw[←HWN.out.2];exact hout)]at hrr
         have HF:=hid (And.intro hrr hD.out.2);clear hrr hD
         by_cases h1:x<0
         · have e1:decide (x<0)=true:=by simpa using h1
           clear hout;go_wp2_with fail;go_roundw
           case rel=>exact⟨i+1,s,ow,v,hli,by go_num,HF⟩
           case measure=>simp[intOf];omega
         · have e1:decide (x<0)=false:=by simpa using h1
           have h2:(N:Int)≤x:=by omega
           have e2:decide ((N:Int)≤x)=true:=by simpa using h2
           clear hout;go_wp2_with fail;go_roundw
           case rel=>exact⟨i+1,s,ow,v,hli,by go_num,HF⟩
           case measure=>simp[intOf];omega
       · obtain⟨j,rfl⟩:∃ j:Nat,x=(j:Int):=⟨x.toNat,by omega⟩
         have hjN:j<N:=by omega
         have hjl:j<c.threads.length:=by rw[←HWN.out.2];exact hjN
         have hRQ:=hD.out.2;obtain⟨g,hg⟩:∃ g,c.threads[j]? = some g:=⟨_,List.getElem?_eq_getElem hjl⟩
         obtain⟨T,hT⟩:∃ T,s.T[j]? = some T:=⟨_,List.getElem?_eq_getElem (by rw[hRQ.len];exact hjl)⟩
         obtain⟨gt,goff,gc,hGA⟩:=Yv HIV.out (fun g hg=>(kF HCK.out.1 g hg).2) (by omega);rw[HEB.out,←HWN.out.2]at hGA
         obtain rfl:tq=some ⟨tb,0,none⟩:=by
          obtain⟨tq',e,h0⟩:=hRQ.etw;rw[h0 (by omega)]at e;injection e
         obtain⟨rs,ws,os,hqt⟩:=hRQ.each j T hT;obtain⟨htb,-,-,-,-,-,d5⟩:=hqt.cells;rw[WR c.threads j _ s hg hT]at hrr;have e1:decide ((j:Int)<0)=false:=by simp
         have e2:decide ((N:Int)≤(j:Int))=false:=by simp;omega
         have e2':decide (N≤j)=false:=by simp;omega
         have htb':tb<wr.heap.size:=htb;obtain⟨tf,htf⟩:∃ tf,tf=T.fin:=⟨_,rfl⟩
         rw[←htf]at d5 hrr
         by_cases hf:tf=0
         · have e3:(tf != 0)=false:=by simpa using hf
           rw[if_neg (by simpa using hf)]at hrr;have HSE:=hid (hRQ.seen (by have:=HKK.out.2.2.1;omega));have HRQ:=hid hRQ;have HTJ:=hid (And.intro hT (And.intro hg (htf.symm.trans hf)));have HGA:=hid hGA;obtain⟨LR,hLR⟩:∃ r,r=yG g s.n s.W T:=⟨_,rfl⟩
           rw[←hLR]at hrr;have HLR:=hid hLR;have HRR:=hid hrr;clear hout hjl hRQ hg hT hGA hqt hrr htf hf hLR hD;go_wp2_with fail;refine HSE.out.mono ?_;rintro e w5 ⟨sv,rfl,hb5,hse⟩;have hR5:=HRQ.out.below hb5;have hlp:=hR5.leap HGA.out HTJ.out.1 HTJ.out.2.1 HTJ.out.2.2;rw[←HLR.out]at hlp;have HLP:=hid hlp;have HR5:=hid hR5;have HSV:=hid (show wh ow w5 sv s.T c.threads.length from hse);have hlb5:=z8 hR5.qw.box;clear hb5 hse hR5 hlp d3 d5 hpc;go_wp2_with fail;refine HLP.out.mono ?_;rintro e w6 ⟨rfl,hmt,hmf⟩;have hrr:=HRR.out;cases hmade:LR.2.2.2 with
           | true =>
            obtain⟨ow',v',hxt,hRq⟩:=hmt hmade;rw[if_pos hmade]at hrr;have HF:=hid (And.intro hrr hRq);clear hrr hRq hmt hmf hmade hxt;go_wp2_with fail;go_roundw
            case rel=>exact⟨i+1,_,ow',v',hli,by go_num,HF⟩
            case measure=>simp[intOf];omega
           | false =>
            obtain⟨hbut,ow',v',n',hqw⟩:=hmf hmade;rw[if_neg (by rw[hmade];simp)]at hrr;obtain⟨eS,eB⟩:=Prod.mk.inj hrr;have hse6:=wh.keeps HSV.out hbut (by simp <;> omega) (by simp <;> omega);have hb6:Below V1.heap.size V1 w6:=HR5.out.bel.trans ⟨hbut.os,hbut.tape,hbut.output,hbut.size,fun k hk=>hbut.block k (Nat.lt_of_lt_of_le hk HR5.out.bel.size) (by rw[HR5.out.low k hk];simp;omega)⟩;have h0:ow (w.heap.size+1)=0:=HR5.out.low _ hVw;obtain⟨strg,hst⟩:∃ b,b=LR.2.1.strange:=⟨_,rfl⟩
            have d5:=zh hqw.box 5 _ rfl;have hl6:=z8 hqw.box;rw[←hst]at d5;obtain⟨sq,sc,rfl⟩:=wh.form hse6;have hR6:=(hb6.block _ hVw).trans HRV.out;obtain⟨s0,s1,s2⟩:=xU hR6;have f0:=Lib.frozen_of_heap hR6 0;have f1:=Lib.frozen_of_heap hR6 1;have f2:=Lib.frozen_of_heap hR6 2;have hlr:=z8 hR6;have HS6:=hid hse6;have HB6:=hid hb6;have HR6:=hid hR6;have HO:=hid h0;have HES:=hid (And.intro eS (And.intro eB hst));have e8:=zH 32 #[(0,.slice sq c.threads.length sc),(1,.bool true),(2,.bool strg)] #[.slice sq c.threads.length sc,.bool true,.bool strg] (by kernel_rfl);rw[←HWN.out.2]at e8;clear hmt hmf hmade hbut hqw hrr eS eB hse6 hb6 h0 hst hR6;rw[←HWN.out.2];go_wp2_with fail;refine bodyPost_ret (v:=.tuple #[.agg #[.slice sq N sc,.bool true,.bool strg],.int .i64 0]) (vT (p:=6) (u:=7) rfl _ _ (w.heap.size+1) _ _ _ _ rfl rfl (vI HR6.out _ _ _)) rfl ?_;have hp:=HS6.out.put (w':=((w6.setCell ⟨w.heap.size+1,0,none⟩ (.slice sq N sc)).setCell ⟨w.heap.size+1,1,none⟩ (.bool true)).setCell ⟨w.heap.size+1,2,none⟩ (.bool strg)) HR6.out (by decide) HO.out (by simp[World.setCell]) ⟨rfl,rfl,rfl⟩ (fun k hk=>(Below.heap_setCell _ _ _ _ hk).trans ((Below.heap_setCell _ _ _ _ hk).trans (Below.heap_setCell _ _ _ _ hk)));rw[show s.T=SX.T from by have h:=congrArg QS.T HES.out.1;exact h]at hp;refine⟨(((HBV.out.trans (HB6.out.mono HBV.out.size)).setCell (by show w.heap.size≤w.heap.size+1;omega) _).setCell (by show w.heap.size≤w.heap.size+1;omega) _).setCell (by show w.heap.size≤w.heap.size+1;omega) _,.inr ⟨HNO.out,sq,sc, ?_, ?_⟩⟩
            · rw[HT.out.1,HT.out.2.1,←HES.out.2.1,←HES.out.1,HES.out.2.2,HWN.out.2]
            · have h:=HT.out.2.2 _ _ _ hp
              rw[HWN.out.2]at h ⊢;exact h
         · have e3:(tf != 0)=true:=by simpa using hf
           rw[if_pos (by simpa using hf)]at hrr;have HF:=hid (And.intro hrr hRQ);clear hout hjl hRQ hg hT hGA hqt hrr htf hf hD;go_wp2_with fail;go_roundw
           case rel=>exact⟨i+1,s,ow,v,hli,by go_num,HF⟩
           case measure=>simp[intOf];omega
     · have hrr:=hD.out.1
       rw[show picks.drop i=[]from List.drop_eq_nil_of_le (by rw[←HNPP.out];omega)]at hrr;obtain⟨eS,eB⟩:=Prod.mk.inj (show (s,false)=(SX,BSX)from hrr);have hRQ:=hD.out.2;obtain⟨V6,hV6⟩:∃ V6,V6=wr.drew:=⟨_,rfl⟩
       have hR6:=hRQ.below (w':=V6) (by rw[hV6];exact⟨rfl,rfl,rfl,Nat.le_refl _,fun _ _=>rfl⟩);have HSE:=hid (hR6.seen (by have:=HKK.out.2.2.1;omega));obtain⟨strg,hst⟩:∃ b,b=s.W.strange:=⟨_,rfl⟩
       have d5:=zh hbox 5 _ rfl;rw[←hst]at d5;have HR6:=hid hR6;have HV6:=hid hV6;have hz6:V6.heap.size=wr.heap.size:=by rw[hV6];rfl
       have HES:=hid (And.intro eS (And.intro eB hst));have e8:=fun (q:Option Addr) (sc:Nat)=>zH 32 #[(0,.slice q N sc),(2,.bool strg)] #[.slice q N sc,.bool false,.bool strg] (by kernel_rfl)
       clear hrr eS eB hRQ hR6 hV6 hst hbox hD;go_wp2_with fail;refine wp_region_held_drew (S:=zn (fun k=>k=V1.heap.size+1) wr) (by kernel_rfl) (zn.drew _ _) (fun hSw=>?_);rw[←HV6.out];rw[←HV6.out]at hSw;refine tH 0 (.pointer (some ⟨V1.heap.size+1,0,none⟩)) hSw ?_;(try simp only[nS]);refine tH 2 (.pointer (some ⟨V1.heap.size+1,0,none⟩)) hSw ?_;(try simp only[nS]);refine tH 3 (.pointer (some ⟨V1.heap.size+1,0,none⟩)) hSw ?_;(try simp only[nS]);refine tH 4 (.pointer (some ⟨V1.heap.size+1,0+5,none⟩)) hSw ?_;(try simp only[nS]);refine tG 5 (.bool strg) hSw (fun W hW=>?_) ?_
       · have d5:=hW.cell (by first|rfl|omega|(dsimp only;omega)) d5
         first|(go_simp;done)|rfl
       (try simp only[nS]);refine tR 1 (fun K hK=>?_);clear hSw;go_simp;refine HSE.out.mono ?_;rintro e w9 ⟨sv,rfl,hb9,hse⟩;obtain⟨sq,sc,rfl⟩:=wh.form (show wh ow w9 sv s.T c.threads.length from hse);rw[←HWN.out.2];have hr9:=(hb9.block (w.heap.size+1) (by omega)).trans ((HR6.out.bel.block _ hVw).trans HRV.out);have HR9:=hid hr9;have HB9:=hid hb9;have HSV:=hid (show wh ow w9 (.slice sq c.threads.length sc) s.T c.threads.length from hse);obtain⟨s0,s1,s2⟩:=xU hr9;have f0:=Lib.frozen_of_heap hr9 0;have f1:=Lib.frozen_of_heap hr9 1;have f2:=Lib.frozen_of_heap hr9 2;have hl9:w.heap.size+1<w9.heap.size:=z8 hr9;clear hb9 hse hr9;refine hK.out _ _ (fun k hk=>(HB9.out.block k (by omega)).trans (by rw[HV6.out];rfl)) (fun hSw=>?_);clear hK K;(try simp only[nS]);refine tG 6 (.agg #[.slice sq N sc,.bool false,.bool strg]) hSw (fun W hW=>?_) ?_
       · have e8x:=e8 sq sc;first|(go_simp;done)|rfl
       (try simp only[nS]);refine tR 7 (fun K hK=>?_);clear hSw;go_simp;refine hK.out _ _ (fun k hk=>((Below.heap_setCell _ _ _ _ (by show k≠w.heap.size+1;omega)).trans ((Below.heap_setCell _ _ _ _ (by show k≠w.heap.size+1;omega)).trans (Below.heap_setCell _ _ _ _ (by show k≠w.heap.size+1;omega)))).trans ((HB9.out.block k (by omega)).trans (by rw[HV6.out];rfl))) (fun hSw=>?_);clear hK K;(try simp only[nS]);refine tH 8 (.int .i64 0) hSw ?_;(try simp only[nS]);refine wpAnyH_done (by kernel_rfl) ?_ _;go_wp2_with fail;refine bodyPost_ret (v:=.tuple #[.agg #[.slice sq N sc,.bool false,.bool strg],.int .i64 0]) (vT (p:=6) (u:=7) rfl _ _ (w.heap.size+1) _ _ _ _ rfl rfl (vI HR9.out _ _ _)) rfl ?_;have hp:=HSV.out.put (w':=((w9.setCell ⟨w.heap.size+1,0,none⟩ (.slice sq N sc)).setCell ⟨w.heap.size+1,1,none⟩ (.bool false)).setCell ⟨w.heap.size+1,2,none⟩ (.bool strg)) HR9.out (by decide) (HR6.out.low _ hVw) (by simp[World.setCell]) ⟨rfl,rfl,rfl⟩ (fun k hk=>(Below.heap_setCell _ _ _ _ hk).trans ((Below.heap_setCell _ _ _ _ hk).trans (Below.heap_setCell _ _ _ _ hk)));rw[HES.out.1]at hp;refine⟨(((HBV.out.trans ((HR6.out.bel.trans (HB9.out.mono (by have:=HR6.out.bel.size;omega))).mono HBV.out.size)).setCell (by show w.heap.size≤w.heap.size+1;omega) _).setCell (by show w.heap.size≤w.heap.size+1;omega) _).setCell (by show w.heap.size≤w.heap.size+1;omega) _,.inr ⟨HNO.out,sq,sc, ?_, ?_⟩⟩
       · rw[HT.out.1,HT.out.2.1,←HES.out.2.1,←HES.out.1,HES.out.2.2,HWN.out.2]
       · have h:=HT.out.2.2 _ _ _ hp
         rw[HWN.out.2]at h ⊢;exact h
