import Derived.Test.YtlboinokdhmacaaGreatDoorLfTwin
namespace Go.Proofs.YtlboinokdhmacaaGreatDoor
set_option maxHeartbeats 64000000
set_option maxRecDepth 1000000
open Lib(hid)
open Go.RowKit
attribute [local go_sem ↓] zL zJ
theorem z1h {a b:World} {g:Nat} (h:b.heap[g]? = a.heap[g]?) (j:Nat):b.cell? ⟨g,j,none⟩ = a.cell? ⟨g,j,none⟩:=by simp only[World.cell?,h]
theorem WO (B:Nat) (c:Cd) (w:World) (pv:Value) (picks:List Int) (fuel:Int) (hI:CIn w B c) (hBw:B≤w.heap.size) (hP:zB xh 1 w B pv picks) (hf:-9223372036854775808≤fuel∧fuel≤9223372036854775807) (hxb:∀ x ∈ picks,-9223372036854775808≤x∧x≤9223372036854775807) :
 Calls Tryz.prog 8 #[.agg #[.int .i64 c.words,c.tv],pv,.int .i64 fuel] w (RunF c picks fuel w):=by
 obtain⟨pq,pc,epv,hpl,hpg⟩:=hP.form;have hproom:=hP.room;have HP:=hid hP;have HXB:=hid hxb;clear hxb;have HI:=hid hI;have HBW:=hid hBw;obtain⟨bo,bcp,eb,hbl,hbg⟩:=hI.tlies.form;have hwords:=hI.words;subst epv;obtain⟨np,hnp⟩:∃ n,n=picks.length:=⟨_,rfl⟩
 obtain⟨W1,hW1⟩:∃ W1,W1=(w.alloc (.cells #[.int .i64 c.words,c.tv] 24)).alloc (.cells #[.slice none 0 0,.bool false,.bool false] 32):=⟨_,rfl⟩
 have z1:(w.alloc (.cells #[.int .i64 c.words,c.tv] 24)).heap.size=w.heap.size+1:=by simp
 have hz1:W1.heap.size=w.heap.size+2:=by rw[hW1];simp
 have hB1:Below w.heap.size w W1:=by rw[hW1];exact (ze w _).alloc (by omega) _
 have hC1:W1.heap[w.heap.size]? = some (.cells #[.int .i64 c.words,c.tv] 24 (0,0)):=by rw[hW1,Below.heap_alloc _ _ _ (by omega)];exact (MapKept.heap_alloc _ _).1
 have hR1:W1.heap[w.heap.size+1]? = some (.cells #[.slice none 0 0,.bool false,.bool false] 32 (0,0)):=by rw[hW1,←z1];exact (MapKept.heap_alloc _ _).1
 unfold RunF;rw[←hnp];rw[←hnp]at hproom hpl hpg;have HRF:=hid (WZ B c W1 pq np pc fuel (hI.keeps (hB1.mono hBw)) (Nat.le_trans hBw hB1.size) hproom hf);obtain⟨ER,hER⟩:∃ e,e=zV c.words c.threads np fuel:=⟨_,rfl⟩
 rw[←hER]at HRF;rw[←hER];have HR1:=hid hR1;have HC1:=hid hC1;have HB1:=hid hB1;have e30:=zH 32 #[] #[.slice none 0 0,.bool false,.bool false] (by kernel_rfl);obtain⟨q0,q1⟩:=zt hC1;have HW1:=hid hW1;rw[hW1]at q0 q1;rw[eb]at HRF q0 q1 HW1;have HEB:=hid eb;obtain⟨WD,hWD⟩:∃ x,x=c.words:=⟨_,rfl⟩
 obtain⟨N,hN⟩:∃ N,N=c.threads.length:=⟨_,rfl⟩
 rw[←hWD,←hN]at q0 q1 HW1 HRF;have HNL:=hid (And.intro hN hWD);have HNP:=hid hnp;have hz1':w.heap.size+1<W1.heap.size:=by omega
 have hz1'':w.heap.size<W1.heap.size:=by omega
 rw[eb]
 by_cases hrf:ER≠0
 · have HER:=hid hrf
   have he1:(ER != 0)=true:=by simp only[bne_iff_ne,ne_eq];exact hrf
   rw[←hWD,←hN];clear hI hP hB1 hC1 hR1 hW1 hz1 z1 hbg hpg hrf hN hWD hwords hnp eb hbl hBw hER;go_enter Tryz.func8,Tryz.ntmps8;go_wp2_with fail;rw[←HW1.out];refine HRF.out.mono ?_;rintro e w2 ⟨rfl,hb2⟩;have HB2:=hid (HB1.out.trans (hb2.mono HB1.out.size));have hR2:=(hb2.block (w.heap.size+1) hz1').trans HR1.out;have HR2:=hid hR2;obtain⟨s0,s1,s2⟩:=xU hR2;have f0:=Lib.frozen_of_heap hR2 0;have f1:=Lib.frozen_of_heap hR2 1;have f2:=Lib.frozen_of_heap hR2 2;clear hb2 hR2 q0 q1;go_wp2_with fail;refine bodyPost_ret (v:=.tuple #[.agg #[.slice none 0 0,.bool false,.bool false],.int .i64 ER]) (vT (p:=6) (u:=7) rfl _ _ (w.heap.size+1) _ _ _ _ rfl rfl (vI HR2.out _ _ _)) rfl ?_;refine⟨((HB2.out.setCell (by show w.heap.size≤w.heap.size+1;omega) _).setCell (by show w.heap.size≤w.heap.size+1;omega) _).setCell (by show w.heap.size≤w.heap.size+1;omega) _,.inl ⟨HER.out,rfl⟩⟩
 · have hrf0:zV c.words c.threads np fuel=0:=by rw[←hER];simpa using hrf
   have hER0:ER=0:=by rw[hER,hrf0]
   have hck:(xW c.words c.threads).2.2=0∧1≤fuel∧fuel≤1048576∧np≤65536:=by
    unfold zV at hrf0;split at hrf0
    · cases hrf0
    · rename_i h1
      split at hrf0
      · cases hrf0
      · split at hrf0
        · cases hrf0
        · exact⟨by simpa using h1,by omega,by omega,by omega⟩
   obtain⟨hck,hf1,hf2,hnp2⟩:=hck;obtain⟨k0,k1,k2,k3⟩:=uG hck;subst hER0;rw[←hWD]at k0 k1;rw[←hN]at k2;obtain⟨NW,hNW⟩:∃ NW:Nat,WD=(NW:Int) - 1:=⟨(WD+1).toNat,by omega⟩
   obtain⟨n,hfn⟩:∃ n:Nat,fuel=(n:Int):=⟨fuel.toNat,by omega⟩
   have HK3:=hid k3;subst hNW;subst hfn;rw[Int.toNat_natCast];have hNW1:1≤NW:=by omega
   have hNW2:NW≤65537:=by omega
   have hn2:n≤1048576:=by omega
   have HPG:=hid hpg;rw[←hWD,←hN];obtain⟨s0,hs0⟩:∃ s,s=RS0 ((NW:Int) - 1) c.threads n:=⟨_,rfl⟩
   rw[←hs0];have HS0:=hid hs0;clear hs0;clear hI hP hB1 hC1 hR1 hW1 hz1 z1 hbg hpg hER hrf hrf0 hck k3 hN hWD hwords hnp eb hbl hBw hf;go_enter Tryz.func8,Tryz.ntmps8;go_wp2_with fail;rw[←HW1.out];refine HRF.out.mono ?_;rintro e w2 ⟨rfl,hb2⟩;have hc2:=(hb2.block w.heap.size hz1'').trans HC1.out;rw[HEB.out,←HNL.out.1,←HNL.out.2]at hc2;have HC2:=hid hc2;have HB2:=hid (HB1.out.trans (hb2.mono HB1.out.size));have HR2:=hid ((hb2.block (w.heap.size+1) hz1').trans HR1.out);have hlt2:w.heap.size+1<w2.heap.size:=by have:=hb2.size;omega
   clear q0 q1 hb2;obtain⟨q0,q1⟩:=zt hc2;clear hc2;go_wp2_with fail;refine (Q0 NW n w2 hNW1 hNW2).mono ?_;rintro e w3 ⟨b,sb,rfl,hb3,hbb,hss,hbs,g1,g2⟩;obtain⟨owA,hWA,hlowA⟩:=Q3 (gs:=c.threads) hNW1 hNW2 hn2 hbb hss hbs g1 g2;have HB3:=hid (HB2.out.trans (hb3.mono (by omega)));have hc3:=(hb3.block w.heap.size (by omega)).trans HC2.out;have HC3:=hid hc3;have HR3:=hid ((hb3.block (w.heap.size+1) hlt2).trans HR2.out);have hlt3:w.heap.size+1<w3.heap.size:=by have:=hb3.size;omega
   have hlt23:w2.heap.size≤w3.heap.size:=hb3.size;have HLA:=hid hlowA;have hWA':WAt owA w3 b (RS0 c.words c.threads n).W n (.slice (some ⟨sb,0,none⟩) NW NW):=by rw[←HNL.out.2];exact hWA
   have HNT:=hid (Q4 owA w3 B b n c _ (HI.out.keeps (HB3.out.mono HBW.out)) hWA' (by have:=HBW.out;omega) (fun k hk=>hlowA k (by have:=HBW.out;omega)) (fun g hg=>⟨(HK3.out g hg).1,(HK3.out g hg).2.1⟩) hn2 (by rw[←HNL.out.1];exact k2));rw[HEB.out,←HNL.out.1,←HNL.out.2]at HNT;clear q0 q1 hb3 g1 g2 hWA hlowA hbb hss hbs hWA';obtain⟨q0,q1⟩:=zt hc3;clear hc3;go_wp2_with fail;refine HNT.out.mono ?_;rintro e w4 ⟨ow4,ps,tv,rfl,hb4,he4,hrun4,hrow4,hlab4⟩;rw[←HNL.out.1]at hrow4;obtain⟨tq,tc,htv,htc⟩:=Zo hrow4;subst htv;have hlow4:∀ k,k<w2.heap.size→ow4 k=0:=fun k hk=>by rw[he4 k (by omega)];exact HLA.out k hk
   have HB4:=hid (HB3.out.trans (hb4.mono (by omega)));have HR4:=hid ((hb4.block (w.heap.size+1) hlt3).trans HR3.out);have hlt4:w.heap.size+1<w4.heap.size:=by have:=hb4.size;omega
   have HL4:=hid hlow4;have HRW:=hid hrow4;have HLB:=hid hlab4;have HRUN:=hid hrun4;have HTC:=hid htc;rw[←HS0.out]at HRUN;have HLT:=hid (And.intro hlt2 hlt4);clear q0 q1 hb4 he4 hrun4 hrow4 hlab4 htc hlow4 hlt2 hlt3 hlt23;go_wp2_with fail
   go_loopw [11,31] (fun sh q wr=>∃ (k:Nat) (s:RS) (ow2:Nat→Nat) (v2:Value),k≤np∧q = .int .i64 (k:Int)∧sh = .bool false∧Hid (zz c.threads (picks.take k) s0=(s,false)∧Ext ow4 ow2 w4∧Std ow4 w4 wr∧xg ow2 wr B b c.threads ps s v2)) (fun _ q _=>np - (intOf q).toNat)
   case atStart=>exact⟨0,s0,ow4,_,by omega,rfl,rfl,hid ⟨rfl,.refl _ _,.refl _ _,HRUN.out⟩⟩
   case round =>
    obtain⟨k,s,ow2,v2,hkp,rfl,rfl,hD⟩:=hrel
    by_cases hlt:k<np
    · obtain⟨pg,poff,rfl,hpgB⟩:=HPG.out (by omega)
      have hkl:k<picks.length:=by rw[←HNP.out];exact hlt
      have hL4:w.heap.size≤w4.heap.size:=by have:=HLT.out.2;omega
      have hbw:Below w.heap.size w wr:=hD.out.2.2.1.low HB4.out hL4 (fun x hx=>HL4.out x (by have:=HLT.out.1;omega));have hpc:=((HP.out.below (hbw.mono HBW.out)).at rfl k hkl).2 0 _ rfl;rw[Nat.mul_one,Nat.add_zero]at hpc;have hpw:pg<wr.heap.size:=by have:=HBW.out;have:=hbw.size;omega
      have hsn:=List.take_succ_eq_append_getElem hkl;obtain⟨x,hx⟩:∃ x,x=picks[k]:=⟨_,rfl⟩
      rw[←hx]at hpc hsn;have hxb:-9223372036854775808≤x∧x≤9223372036854775807:=HXB.out x (by rw[hx];exact List.getElem_mem hkl);have HSN:=hid hsn;have HBWR:=hid hbw;clear hsn hx hkl hbw hL4
      by_cases hout:x<0∨(N:Int)≤x
      · have hst:=WU c.threads x s (by rw[←HNL.out.1];exact hout)
        have hF:=Zm c.threads (picks.take k) x s0 s hD.out.1;rw[hst,←HSN.out]at hF;have HF:=hid (show zz c.threads (picks.take (k+1)) s0=(s,false)∧Ext ow4 ow2 w4∧Std ow4 w4 wr∧xg ow2 wr B b c.threads ps s v2 from⟨hF,hD.out.2⟩);clear hst hF hD;have hor:x<0∨(¬ x<0∧(N:Int)≤x):=by omega
        clear hout;rcases hor with h1|⟨h1,h2⟩
        all_goals
         go_wp2_with fail;go_roundw
         case rel=>exact⟨k+1,s,ow2,v2,hlt,by go_num,rfl,HF⟩
         case measure=>simp[intOf];omega
      · obtain⟨j,hj⟩:∃ j:Nat,x=(j:Int):=⟨x.toNat,by omega⟩
        subst hj;have hjN:j<N:=by omega
        have hjl:j<c.threads.length:=by rw[←HNL.out.1];exact hjN
        have hR:=hD.out.2.2.2;obtain⟨g,hg⟩:∃ g,c.threads[j]? = some g:=⟨_,List.getElem?_eq_getElem hjl⟩
        obtain⟨T,hT⟩:∃ T,s.T[j]? = some T:=⟨_,List.getElem?_eq_getElem (by rw[hR.tlen];exact hjl)⟩
        obtain⟨p,hp⟩:∃ p,ps[j]? = some p:=⟨_,List.getElem?_eq_getElem (by rw[hR.plen];exact hjl)⟩
        obtain⟨⟨rs,us,ts,ws,ht⟩,hstl⟩:=hR.each j g T p hg hT hp;have hgm:g ∈ c.threads:=List.mem_of_getElem? hg;have HLP:=hid (JL ow2 wr B b j p s.n g s.W T v2 rs us ts ws hR.world ht hR.base hR.low ((HI.out.threads g hgm).keeps (HBWR.out.mono HBW.out)) (HK3.out g hgm).1 hstl hR.words);have hin:=WV c.threads j s g T hg hT;have hF:=Zm c.threads (picks.take k) (j:Int) s0 s hD.out.1;rw[hin,←HSN.out]at hF;have HF:=hid hF;have HG:=hid (And.intro hg (And.intro hT hp));have HGO:=hid (HK3.out g hgm).1;obtain⟨tg,rfl,htg,hob,htc⟩:=HTC.out (by omega);have hcell:=htc j p hp;have hlab:ow4 tg=3:=HLB.out tg hob;have hct:=(z1h (hD.out.2.2.1.block tg htg (.inr hlab)) j).trans hcell;have htw:tg<wr.heap.size:=by have:=hD.out.2.2.1.size;omega
        clear hout hjl hR hT hp ht hstl hgm hin hF htc hcell hlab hob hg;go_wp2_with fail;refine HLP.out.mono ?_;rintro e w5 ⟨rfl,ow5,v5,rs5,us5,ts5,ws5,t1,t2,t3,t4⟩;have hF:=HF.out;cases hmade:(zA g s.n s.W T).2.2.2 with
        | true =>
         rw[hmade]at hF;have hRA:=hD.out.2.2.2.leap HG.out.1 HG.out.2.1 HG.out.2.2 HGO.out t1 t2 t3 t4 hmade
         have HFF:=hid (show zz c.threads (picks.take (k+1)) s0=(_,false)∧Ext ow4 ow5 w4∧Std ow4 w4 w5∧xg ow5 w5 B b c.threads ps _ v5 from
          ⟨hF,fun y hy=>(t1 y (by have:=hD.out.2.2.1.size;omega)).trans (hD.out.2.1 y hy),hD.out.2.2.1.leap hD.out.2.1 t4,hRA⟩)
         clear hF hRA hD t1 t2 t3 t4 hmade hpc hct htw hpw;go_wp2_with fail;go_roundw
         case rel=>exact⟨k+1,_,ow5,v5,hlt,by go_num,rfl,HFF⟩
         case measure=>simp[intOf];omega
        | false =>
         rw[hmade]at hF;have hEA:=hD.out.2.2.2.short HG.out.1 HG.out.2.2 t1 t2 t3 t4;have hstd:=hD.out.2.2.1.leap hD.out.2.1 t4;have hext:Ext ow4 ow5 w4:=fun y hy=>(t1 y (by have:=hD.out.2.2.1.size;omega)).trans (hD.out.2.1 y hy)
         obtain⟨sx,hsx⟩:∃ sx,sx=(⟨(zA g s.n s.W T).1,(zA g s.n s.W T).2.1,s.T.set j (zA g s.n s.W T).2.2.1⟩:RS):=⟨_,rfl⟩
         rw[←hsx]at hEA;rw[←hsx]at hF
         have hF3:zz c.threads picks s0=(sx,true):=by
          have h:=WW c.threads (picks.take (k+1)) (picks.drop (k+1)) s0 sx hF;rw[List.take_append_drop]at h;exact h
         clear hF hmade hsx t1 t2 t3 t4 hpc hct htw hpw;have hlx:w.heap.size+1<w5.heap.size:=by have:=hstd.size;have:=HLT.out.2;omega
         have hrx:=(hstd.block (w.heap.size+1) HLT.out.2 (.inl (HL4.out _ HLT.out.1))).trans HR4.out;have hox:ow5 (w.heap.size+1)=0:=by rw[hext _ HLT.out.2];exact HL4.out _ HLT.out.1
         have hrowx:=ZB HRW.out hstd HLB.out;have hL4:w.heap.size≤w4.heap.size:=by have:=HLT.out.2;omega
         have hbx:Below w.heap.size w w5:=hstd.low HB4.out hL4 (fun y hy=>HL4.out y (by have:=HLT.out.1;omega));have e2:=hEA.world.cells.2.2;have hbW:b<w5.heap.size:=z8 hEA.world.box;have hpl:ps.length=c.threads.length:=HRUN.out.plen;have htl:=hEA.tlen
         have HSE:=hid (fun (u:World) (hu:Below w5.heap.size w5 u)=>Zg ow5 u b w3.heap.size c.threads ps sx v5 _ (hEA.below hu) hpl (by
          rw[←HNL.out.1];refine⟨hrowx.1, ?_⟩;rcases hrowx.2 with hn|⟨g9,cap9,cur9,q1,q2,q3,q4⟩
          · exact .inl hn
          · exact .inr ⟨g9,cap9,cur9,q1,q2,(hu.block g9 (z8 q3)).trans q3,q4⟩) (by rw[←HNL.out.1];exact k2))
         have HEA:=hid hEA;have HSTD:=hid hstd;have HRP:=hid hF3;have HRX:=hid hrx;have HOX:=hid hox;have HBX:=hid hbx;have HTL:=hid htl;have HPL:=hid hpl;have e8:=fun (q:Option Addr) (cp:Nat) (st:Bool)=>zH 32 #[(0,.slice q N cp),(1,.bool true),(2,.bool st)] #[.slice q N cp,.bool true,.bool st] (by kernel_rfl)
         obtain⟨strg,hstrg⟩:∃ st,st=sx.W.strange:=⟨_,rfl⟩
         rw[←hstrg]at e2;have HSTR:=hid hstrg;have HEXT:=hid hext;have HSZ:=hid hlx;clear hstd hext hEA hF3 hrx hox hrowx hL4 hbx hpl htl hstrg hD e30;go_wp2_with fail;refine wp_region_held_drew (S:=zn (fun x=>x=b∨x=b) w5) (by kernel_rfl) (zn.drew _ _) (fun hSw=>?_);refine tH 0 (.slice (some ⟨tg,0,none⟩) N tc) hSw ?_;(try simp only[nS]);refine tH 2 (.bool true) hSw ?_;(try simp only[nS]);refine tH 3 (.pointer (some ⟨b,0,none⟩)) hSw ?_;(try simp only[nS]);refine tH 4 (.pointer (some ⟨b,0,none⟩)) hSw ?_;(try simp only[nS]);refine tH 5 (.pointer (some ⟨b,2,none⟩)) hSw ?_;(try simp only[nS]);refine tG 6 (.bool strg) hSw (fun W hW=>?_) ?_
         · have e2:=hW.cell (by dsimp only;omega) e2
           first|(go_simp;done)|rfl
         (try simp only[nS]);refine tR 1 (fun K hK=>?_);clear hSw;go_simp;refine (HSE.out _ (below_drewN' (Below.refl _ _))).mono ?_;rintro e w9 ⟨sv,rfl,hb9,hown9⟩;have hb9':Below w5.heap.size w5 w9:=⟨hb9.os,hb9.tape,hb9.output,hb9.size,hb9.block⟩
         obtain⟨sq,sc,hsv⟩:∃ q cp,sv = .slice q N cp:=by
          rcases hown9.2 with ⟨e,e2⟩|⟨gg,cap,cur,e,_⟩
          · exact⟨none,0,by rw[e,HNL.out.1,←HTL.out,e2]⟩
          · exact⟨_,_,by rw[e,HNL.out.1,←HTL.out]⟩
         subst hsv;have hr9:=(hb9'.block (w.heap.size+1) hlx).trans HRX.out;have HR9:=hid hr9;have HB9:=hid hb9';have HO9:=hid (show w9.ownsRow w5.heap.size 108 2 (.slice sq N sc) sx.T.length (seenCells w5 ps sx.T)from hown9);obtain⟨s0',s1',s2'⟩:=xU hr9;have f0:=Lib.frozen_of_heap hr9 0;have f1:=Lib.frozen_of_heap hr9 1;have f2:=Lib.frozen_of_heap hr9 2;have hl9:w.heap.size+1<w9.heap.size:=by have:=hb9'.size;omega
         have hbne:b≠w.heap.size+1:=fun q=>by have h1:=HEA.out.world.lab;have h2:=HOX.out;rw[q]at h1;omega
         clear hb9 hown9 hr9 hb9';refine hK.out _ _ (fun k hk=>HB9.out.block k (by omega)) (fun hSw=>?_);clear hK K;(try simp only[nS]);refine tG 7 (.agg #[.slice sq N sc,.bool true,.bool strg]) hSw (fun W hW=>?_) ?_
         · have e8x:=e8 sq sc strg;first|(go_simp;done)|rfl
         (try simp only[nS]);refine tR 8 (fun K hK=>?_);clear hSw;go_simp;refine hK.out _ _ (fun k hk=>((Below.heap_setCell _ _ _ _ (by show k≠w.heap.size+1;omega)).trans ((Below.heap_setCell _ _ _ _ (by show k≠w.heap.size+1;omega)).trans (Below.heap_setCell _ _ _ _ (by show k≠w.heap.size+1;omega)))).trans (HB9.out.block k (by omega))) (fun hSw=>?_);clear hK K;(try simp only[nS]);refine tH 9 (.int .i64 0) hSw ?_;(try simp only[nS]);refine wpAnyH_done (by kernel_rfl) ?_ _;go_wp2_with fail;refine bodyPost_ret (v:=.tuple #[.agg #[.slice sq N sc,.bool true,.bool strg],.int .i64 0]) (vT (p:=6) (u:=7) rfl _ _ (w.heap.size+1) _ _ _ _ rfl rfl (vI HR9.out _ _ _)) rfl ?_;refine⟨((((HBX.out.trans (HB9.out.mono (by omega))).setCell (by show w.heap.size≤w.heap.size+1;omega) _).setCell (by show w.heap.size≤w.heap.size+1;omega) _).setCell (by show w.heap.size≤w.heap.size+1;omega) _),.inr ⟨trivial,sq,sc, ?_, ?_, ?_⟩⟩
         · rw[HRP.out,HSTR.out]
         · rw[HRP.out]
           have h:=run_end (w10:=((w9.setCell ⟨w.heap.size+1,0,none⟩ (.slice sq N sc)).setCell ⟨w.heap.size+1,1,none⟩ (.bool true)).setCell ⟨w.heap.size+1,2,none⟩ (.bool strg)) HEA.out HPL.out HB9.out HO9.out hlx HOX.out (by simp[World.setCell]) ⟨rfl,rfl,rfl⟩ (fun k hk=>(Below.heap_setCell _ _ _ _ hk).trans ((Below.heap_setCell _ _ _ _ hk).trans (Below.heap_setCell _ _ _ _ hk)));exact h
         · rw[HRP.out]
           have h:=Zk (B:=w.heap.size) (w10:=((w9.setCell ⟨w.heap.size+1,0,none⟩ (.slice sq N sc)).setCell ⟨w.heap.size+1,1,none⟩ (.bool true)).setCell ⟨w.heap.size+1,2,none⟩ (.bool strg)) HEA.out HPL.out HB9.out HO9.out hlx HOX.out (by simp[World.setCell]) ⟨rfl,rfl,rfl⟩ (fun k hk=>(Below.heap_setCell _ _ _ _ hk).trans ((Below.heap_setCell _ _ _ _ hk).trans (Below.heap_setCell _ _ _ _ hk))) (by have:=HLT.out;have:=HSZ.out;omega) (fun y hy=>by rw[HEXT.out y (by have:=HLT.out;omega)];exact HL4.out y (by have:=HLT.out;omega));exact h
    · have hk:k=np:=by omega
      subst hk
      have hF3:zz c.threads picks s0=(s,false):=by
       have h:=hD.out.1;rw[show picks.take k=picks by rw[HNP.out];exact List.take_length]at h;exact h
      have hEA:=hD.out.2.2.2.end;have hstd:=hD.out.2.2.1;have hext:=hD.out.2.1;obtain⟨sx,hsx⟩:∃ sx,sx=s:=⟨_,rfl⟩
      rw[←hsx]at hF3 hEA;clear hlt hsx;have hlx:w.heap.size+1<wr.heap.size:=by have:=hstd.size;have:=HLT.out.2;omega
      have hrx:=(hstd.block (w.heap.size+1) HLT.out.2 (.inl (HL4.out _ HLT.out.1))).trans HR4.out;have hox:ow2 (w.heap.size+1)=0:=by rw[hext _ HLT.out.2];exact HL4.out _ HLT.out.1
      have hrowx:=ZB HRW.out hstd HLB.out;have hL4:w.heap.size≤w4.heap.size:=by have:=HLT.out.2;omega
      have hbx:Below w.heap.size w wr:=hstd.low HB4.out hL4 (fun y hy=>HL4.out y (by have:=HLT.out.1;omega));have e2:=hEA.world.cells.2.2;have hbW:b<wr.heap.size:=z8 hEA.world.box;have hpl:ps.length=c.threads.length:=HRUN.out.plen;have htl:=hEA.tlen
      have HSE:=hid (fun (u:World) (hu:Below wr.heap.size wr u)=>Zg ow2 u b w3.heap.size c.threads ps sx v2 _ (hEA.below hu) hpl (by
       rw[←HNL.out.1];refine⟨hrowx.1, ?_⟩;rcases hrowx.2 with hn|⟨g9,cap9,cur9,q1,q2,q3,q4⟩
       · exact .inl hn
       · exact .inr ⟨g9,cap9,cur9,q1,q2,(hu.block g9 (z8 q3)).trans q3,q4⟩) (by rw[←HNL.out.1];exact k2))
      have HEA:=hid hEA;have HSTD:=hid hstd;have HRP:=hid hF3;have HRX:=hid hrx;have HOX:=hid hox;have HBX:=hid hbx;have HTL:=hid htl;have HPL:=hid hpl;have e8:=fun (q:Option Addr) (cp:Nat) (st:Bool)=>zH 32 #[(0,.slice q N cp),(1,.bool false),(2,.bool st)] #[.slice q N cp,.bool false,.bool st] (by kernel_rfl)
      obtain⟨strg,hstrg⟩:∃ st,st=sx.W.strange:=⟨_,rfl⟩
      rw[←hstrg]at e2;have HSTR:=hid hstrg;have HEXT:=hid hext;have HSZ:=hid hlx;clear hstd hext hEA hF3 hrx hox hrowx hL4 hbx hpl htl hstrg hD e30;go_wp2_with fail;refine wp_region_held_drew (S:=zn (fun x=>x=b∨x=b) wr) (by kernel_rfl) (zn.drew _ _) (fun hSw=>?_);refine tH 0 (.slice tq N tc) hSw ?_;(try simp only[nS]);refine tH 2 (.bool false) hSw ?_;(try simp only[nS]);refine tH 3 (.pointer (some ⟨b,0,none⟩)) hSw ?_;(try simp only[nS]);refine tH 4 (.pointer (some ⟨b,0,none⟩)) hSw ?_;(try simp only[nS]);refine tH 5 (.pointer (some ⟨b,2,none⟩)) hSw ?_;(try simp only[nS]);refine tG 6 (.bool strg) hSw (fun W hW=>?_) ?_
      · have e2:=hW.cell (by dsimp only;omega) e2
        first|(go_simp;done)|rfl
      (try simp only[nS]);refine tR 1 (fun K hK=>?_);clear hSw;go_simp;refine (HSE.out _ (below_drewN' (Below.refl _ _))).mono ?_;rintro e w9 ⟨sv,rfl,hb9,hown9⟩;have hb9':Below wr.heap.size wr w9:=⟨hb9.os,hb9.tape,hb9.output,hb9.size,hb9.block⟩
      obtain⟨sq,sc,hsv⟩:∃ q cp,sv = .slice q N cp:=by
       rcases hown9.2 with ⟨e,e2⟩|⟨gg,cap,cur,e,_⟩
       · exact⟨none,0,by rw[e,HNL.out.1,←HTL.out,e2]⟩
       · exact⟨_,_,by rw[e,HNL.out.1,←HTL.out]⟩
      subst hsv;have hr9:=(hb9'.block (w.heap.size+1) hlx).trans HRX.out;have HR9:=hid hr9;have HB9:=hid hb9';have HO9:=hid (show w9.ownsRow wr.heap.size 108 2 (.slice sq N sc) sx.T.length (seenCells wr ps sx.T)from hown9);obtain⟨s0',s1',s2'⟩:=xU hr9;have f0:=Lib.frozen_of_heap hr9 0;have f1:=Lib.frozen_of_heap hr9 1;have f2:=Lib.frozen_of_heap hr9 2;have hl9:w.heap.size+1<w9.heap.size:=by have:=hb9'.size;omega
      have hbne:b≠w.heap.size+1:=fun q=>by have h1:=HEA.out.world.lab;have h2:=HOX.out;rw[q]at h1;omega
      clear hb9 hown9 hr9 hb9';refine hK.out _ _ (fun k hk=>HB9.out.block k (by omega)) (fun hSw=>?_);clear hK K;(try simp only[nS]);refine tG 7 (.agg #[.slice sq N sc,.bool false,.bool strg]) hSw (fun W hW=>?_) ?_
      · have e8x:=e8 sq sc strg;first|(go_simp;done)|rfl
      (try simp only[nS]);refine tR 8 (fun K hK=>?_);clear hSw;go_simp;refine hK.out _ _ (fun k hk=>((Below.heap_setCell _ _ _ _ (by show k≠w.heap.size+1;omega)).trans ((Below.heap_setCell _ _ _ _ (by show k≠w.heap.size+1;omega)).trans (Below.heap_setCell _ _ _ _ (by show k≠w.heap.size+1;omega)))).trans (HB9.out.block k (by omega))) (fun hSw=>?_);clear hK K;(try simp only[nS]);refine tH 9 (.int .i64 0) hSw ?_;(try simp only[nS]);refine wpAnyH_done (by kernel_rfl) ?_ _;go_wp2_with fail;refine bodyPost_ret (v:=.tuple #[.agg #[.slice sq N sc,.bool false,.bool strg],.int .i64 0]) (vT (p:=6) (u:=7) rfl _ _ (w.heap.size+1) _ _ _ _ rfl rfl (vI HR9.out _ _ _)) rfl ?_;refine⟨((((HBX.out.trans (HB9.out.mono (by omega))).setCell (by show w.heap.size≤w.heap.size+1;omega) _).setCell (by show w.heap.size≤w.heap.size+1;omega) _).setCell (by show w.heap.size≤w.heap.size+1;omega) _),.inr ⟨trivial,sq,sc, ?_, ?_, ?_⟩⟩
      · rw[HRP.out,HSTR.out]
      · rw[HRP.out]
        have h:=run_end (w10:=((w9.setCell ⟨w.heap.size+1,0,none⟩ (.slice sq N sc)).setCell ⟨w.heap.size+1,1,none⟩ (.bool false)).setCell ⟨w.heap.size+1,2,none⟩ (.bool strg)) HEA.out HPL.out HB9.out HO9.out hlx HOX.out (by simp[World.setCell]) ⟨rfl,rfl,rfl⟩ (fun k hk=>(Below.heap_setCell _ _ _ _ hk).trans ((Below.heap_setCell _ _ _ _ hk).trans (Below.heap_setCell _ _ _ _ hk)));exact h
      · rw[HRP.out]
        have h:=Zk (B:=w.heap.size) (w10:=((w9.setCell ⟨w.heap.size+1,0,none⟩ (.slice sq N sc)).setCell ⟨w.heap.size+1,1,none⟩ (.bool false)).setCell ⟨w.heap.size+1,2,none⟩ (.bool strg)) HEA.out HPL.out HB9.out HO9.out hlx HOX.out (by simp[World.setCell]) ⟨rfl,rfl,rfl⟩ (fun k hk=>(Below.heap_setCell _ _ _ _ hk).trans ((Below.heap_setCell _ _ _ _ hk).trans (Below.heap_setCell _ _ _ _ hk))) (by have:=HLT.out;have:=HSZ.out;omega) (fun y hy=>by rw[HEXT.out y (by have:=HLT.out;omega)];exact HL4.out y (by have:=HLT.out;omega));exact h
