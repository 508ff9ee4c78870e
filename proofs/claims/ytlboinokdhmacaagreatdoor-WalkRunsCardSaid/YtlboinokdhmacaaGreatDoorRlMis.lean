import Derived.Test.YtlboinokdhmacaaGreatDoorRwSame
import Derived.Test.YtlboinokdhmacaaGreatDoorRlSides
namespace Go.Proofs.YtlboinokdhmacaaGreatDoor
set_option maxHeartbeats 64000000
set_option maxRecDepth 1000000
open Lib(hid)
open Go.RowKit
attribute [local go_sem ↓] zL zJ
theorem z1o {B:List Nat} {k:Nat} (h:k<B.length):yZ k (B.drop k)=if zZ B k=3 then some k else yZ (k+1) (B.drop (k+1)):=by
 rw[List.drop_eq_getElem_cons h,yZ];unfold zZ;rw[List.getElem?_eq_getElem h]
 rfl
theorem Qd {B:List Nat} {l:List Bk} {k:Nat} {b:Bk} (hb:l[k]? = some b):zU B k (l.drop k)=if zZ B k=0 then zU B (k+1) (l.drop (k+1)) else match zS 0 (zZ B k) b.ins with
 | (some j,_)=>some (k,j)
 | (none,on)=>if b.last=3∧on=2 then some (k,b.ins.length) else zU B (k+1) (l.drop (k+1)):=by
 obtain⟨h,e⟩:=List.getElem?_eq_some_iff.1 hb;rw[List.drop_eq_getElem_cons h,e,zU]
 rfl
theorem ZR {l:List In} {k on:Nat} {x:In} (hx:l[k]? = some x):zS k on (l.drop k)=if yL x.k &&& on=0 then (some k,on) else zS (k+1) (yD x.k on) (l.drop (k+1)):=by
 obtain⟨h,e⟩:=List.getElem?_eq_some_iff.1 hx;rw[List.drop_eq_getElem_cons h,e,zS]
theorem Z9 (k:Int) (c:Bool):(yL k &&& zQ c=0)↔(vR k && !c || decide (k=13) && c)=true:=by
 unfold yL vR zQ
 by_cases h13:k=13
 · subst h13;cases c <;> decide
 · by_cases hs:k=7∨k=8∨k=9∨k=10∨k=11∨k=14
   · rcases hs with rfl|rfl|rfl|rfl|rfl|rfl <;> cases c <;> decide
   · have h2:¬ (k=7∨k=8∨k=9∨k=10∨k=11∨k=14):=hs
     rw[if_neg h2,if_neg h13];simp only[not_or]at hs;cases c <;> simp[hs,h13]
theorem Za (k:Int) (c:Bool) (h:(vR k && !c || decide (k=13) && c)=false):yD k (zQ c)=zQ (if k=13∨k=14 then !c else c):=by
 unfold yD
 by_cases h13:k=13
 · subst h13;cases c <;> simp[zQ]at h ⊢
 · by_cases h14:k=14
   · subst h14;cases c <;> simp[zQ,vR]at h ⊢
   · rw[if_neg h13,if_neg h14,if_neg (by omega)]
def SsE (ok:Bool) (w:World) (e:Ending) (w':World):Prop:=(∃ a b:Int,e = .returned (.tuple #[.agg #[.int .i64 a,.int .i64 b],.bool ok]))∧Below w.heap.size w w'
theorem Ja (B:Nat) (g:Gr) (w:World) (hI:GIn w B g) (hBw:B≤w.heap.size) (h0:0<g.blocks.length) (hn:g.blocks.length≤4096) (hv:∀ b ∈ g.blocks,∀ y ∈ zC b,0≤y∧y<(g.blocks.length:Int)) :
 Calls Tryz.prog 195 #[.agg #[g.rv,.int .i64 g.sites,g.bv]] w (SsE (decide ((wF g.blocks).2=0)) w):=by
 obtain⟨ro,rc,er,-,-⟩:=hI.rlies.form;obtain⟨bo,bcp,eb,hbl,hbg⟩:=hI.blies.form;have hroom:=hI.blies.room;have HBL:=hid hI.blies;have HBI:=hid hI.blocks;have HSI:=hid (fun (u:World) (hu:Below w.heap.size w u)=>QB B g u (hI.keeps (hu.mono hBw)) (Nat.le_trans hBw hu.size) h0 hn hv);have HMK:=hid (uK h0 hv);have HMO:=hid (fun (I O:List Bool)=>Qj (I:=I) (O:=O) h0 hv);clear hI hv;obtain⟨rv,refs,sites,bv,blocks⟩:=g;simp only at *;subst er eb;obtain⟨N1,hN1⟩:∃ N,N=refs.length:=⟨_,rfl⟩
 obtain⟨n,hN2⟩:∃ N,N=blocks.length:=⟨_,rfl⟩
 obtain⟨MB,hMB⟩:∃ MB,MB=yo blocks:=⟨_,rfl⟩
 rw[←hMB]at HMK HMO;obtain⟨ok,hok⟩:∃ ok,ok=decide ((wF blocks).2=0):=⟨_,rfl⟩
 rw[←hok]
 have HOK:=hid (show ok=((yZ 0 MB).isNone && (zU MB 0 blocks).isNone)from by
  rw[hok,hMB];unfold wF;cases h1:yZ 0 (yo blocks)with
  | some x=>simp
  | none=>cases h2:zU (yo blocks) 0 blocks with
   | some y=>simp
   | none=>simp)
 rw[←hN1,←hN2]at HSI;rw[←hN1,←hN2];rw[←hN2]at hbl hbg HBL hn h0 hroom;have HN:=hid hN2;have HG2:=hid hbg;obtain⟨W1,hW1⟩:∃ W1,W1=(w.alloc (.cells #[.slice ro N1 rc,.int .i64 sites,.slice bo n bcp] 75)).alloc (.cells #[.int .i64 0,.int .i64 0] 92):=⟨_,rfl⟩
 have z1:(w.alloc (.cells #[.slice ro N1 rc,.int .i64 sites,.slice bo n bcp] 75)).heap.size=w.heap.size+1:=by simp
 have hz1:W1.heap.size=w.heap.size+1+1:=by rw[hW1];simp
 have hB1:Below w.heap.size w W1:=by rw[hW1];exact (ze w _).alloc (by omega) _
 have hO:W1.heap[w.heap.size]? = some (.cells #[.slice ro N1 rc,.int .i64 sites,.slice bo n bcp] 75 (0,0)):=by rw[hW1,Below.heap_alloc _ _ _ (by omega)];exact (MapKept.heap_alloc _ _).1
 have hS1:W1.heap[w.heap.size+1]? = some (.cells #[.int .i64 0,.int .i64 0] 92 (0,0)):=by rw[hW1,←z1];exact (MapKept.heap_alloc _ _).1
 have HSC:=hid (HSI.out W1 hB1);have HW1:=hid hW1;have HO:=hid hO;have HS1:=hid hS1;have HB1:=hid hB1;have HZ1:=hid hz1;obtain⟨q0,q1,q2⟩:=yl hO;rw[hW1]at q0 q1 q2;have e0:=fun (x y:Int)=>zH 92 #[(0,.int .i64 x),(1,.int .i64 y)] #[.int .i64 x,.int .i64 y] (by kernel_rfl)
 have e1:=zH 92 #[] #[.int .i64 0,.int .i64 0] (by kernel_rfl);have e2:=fun (x:Int)=>zH 92 #[(0,.int .i64 x)] #[.int .i64 x,.int .i64 0] (by kernel_rfl)
 clear hN1 hN2 hW1 hO hS1 hB1 hz1 z1 hMB hok hbg;go_enter Tryz.func195,Tryz.ntmps195;go_wp2_with fail;rw[←HW1.out];refine HSC.out.mono ?_;rintro e w2 ⟨I,O,rfl,hsz2,hrI,hrO,hlI,hlO,hbits,hb2⟩;have hO2:=(hb2.block w.heap.size (by rw[HZ1.out];omega)).trans HO.out;have hS2:=(hb2.block (w.heap.size+1) (by rw[HZ1.out];omega)).trans HS1.out;have HSP:=hid hS2;have hB2:=HB1.out.trans (hb2.mono (by rw[HZ1.out];omega));have HB2:=hid hB2;have hzw:w.heap.size+1<w2.heap.size:=by have:=HZ1.out;omega
 have hmI:W1.heap.size+1+1<w2.heap.size:=hsz2;have HCI:=hid (fun (k:Nat) (hk:k<n)=>qJ hrI (k:=k) (by rw[hlI];exact hk));have HCO:=hid (fun (k:Nat) (hk:k<n)=>qJ hrO (k:=k) (by rw[hlO];exact hk));have HMV:=hid (HMO.out I O (fun t=>(hbits t).1) (fun t=>(hbits t).2));obtain⟨g0,g1,g2⟩:=yl hO2;have f0:=Lib.frozen_of_heap hS2 0;have f1:=Lib.frozen_of_heap hS2 1;obtain⟨s0,s1⟩:=zt hS2;clear hO2 hS2 hB2 hb2 hrI hrO hlI hlO hbits hsz2 q0 q1 q2;go_wp2_with fail
 go_loopw [6] (fun q wr=>∃ k:Nat,k≤n∧q = .int .i64 (k:Int)∧w2=wr∧Hid ((yZ 0 MB).isNone=(yZ k (MB.drop k)).isNone)) (fun q _=>n - (intOf q).toNat)
 case atStart=>exact⟨0,by omega,rfl,rfl,hid rfl⟩
 case round =>
  obtain⟨k,hk,rfl,rfl,HD⟩:=hrel
  by_cases hlt:k<n
  · have cI:=HCI.out k hlt
    have cO:=HCO.out k hlt;have hst:=z1o (B:=MB) (k:=k) (by rw[HMK.out.1,←HN.out];exact hlt);have hmv:=HMV.out k;change _=(if zo I k=true then 2 else 0)+(if zo O k=true then 1 else 0)at hmv;obtain⟨bI,hbI⟩:∃ x,x=zo I k:=⟨_,rfl⟩
    obtain⟨bO,hbO⟩:∃ x,x=zo O k:=⟨_,rfl⟩
    rw[←hbI,←hbO]at hmv;rw[←hbI]at cI;rw[←hbO]at cO;have hv3:(zZ MB k=3)↔(bI=true∧bO=true):=by rw[hmv];cases bI <;> cases bO <;> simp
    have HST:=hid hst;have HV3:=hid hv3;clear hst hmv hbI hbO hv3;have hcs:(bI=true∧bO=true)∨bI=false∨(bI=true∧bO=false):=by cases bI <;> cases bO <;> simp
    rcases hcs with ⟨rfl,rfl⟩|rfl|⟨rfl,rfl⟩
    · have HF:=hid (show ok=false from by rw[HOK.out,HD.out,HST.out,if_pos (HV3.out.2 ⟨rfl,rfl⟩)];rfl)
      go_wp2_with fail;refine bodyPost_ret (v:=.tuple #[.agg #[.int .i64 (k:Int),.int .i64 0],.bool false]) (yw (p:=2) (u:=3) rfl _ _ (w.heap.size+1) _ _ _ rfl rfl (y9 HSP.out _ _)) rfl ?_;exact⟨⟨_,_,by rw[HF.out]⟩,(HB2.out.setCell (by show w.heap.size≤w.heap.size+1;omega) _).setCell (by show w.heap.size≤w.heap.size+1;omega) _⟩
    · have HF:=hid (show (yZ 0 MB).isNone=(yZ (k+1) (MB.drop (k+1))).isNone from by rw[HD.out,HST.out,if_neg (fun q=>by have:=(HV3.out.1 q).1;cases this)])
      go_wp2_with fail;go_roundw
      case rel=>exact⟨k+1,hlt,by go_num,trivial,HF⟩
      case measure=>simp[intOf];omega
    · have HF:=hid (show (yZ 0 MB).isNone=(yZ (k+1) (MB.drop (k+1))).isNone from by rw[HD.out,HST.out,if_neg (fun q=>by have:=(HV3.out.1 q).2;cases this)])
      go_wp2_with fail;go_roundw
      case rel=>exact⟨k+1,hlt,by go_num,trivial,HF⟩
      case measure=>simp[intOf];omega
  · have hkn:k=n:=by omega
    have hnone:(yZ 0 MB).isNone=true:=by rw[HD.out,List.drop_eq_nil_of_le (by rw[HMK.out.1,←HN.out];omega)];rfl
    have HNO:=hid (show ∀ i,zZ MB i≠3 from YR MB 0 (by simpa using hnone));have HOK2:=hid (show ok=(zU MB 0 blocks).isNone from by rw[HOK.out,hnone];rfl);clear hnone;subst hkn;clear hlt;go_wp2_with fail
    go_loopw [7] (fun q wr=>∃ p:Nat,p≤k∧q = .int .i64 (p:Int)∧w2=wr∧Hid (ok=(zU MB p (blocks.drop p)).isNone)) (fun q _=>k - (intOf q).toNat)
    case atStart=>exact⟨0,by omega,rfl,rfl,hid HOK2.out⟩
    case round =>
     obtain⟨p,hp,rfl,rfl,HE⟩:=hrel
     by_cases hlt:p<k
     · have cI:=HCI.out p hlt
       have cO:=HCO.out p hlt;have hmv:=HMV.out p;change _=(if zo I p=true then 2 else 0)+(if zo O p=true then 1 else 0)at hmv;obtain⟨bI,hbI⟩:∃ x,x=zo I p:=⟨_,rfl⟩
       obtain⟨bO,hbO⟩:∃ x,x=zo O p:=⟨_,rfl⟩
       rw[←hbI,←hbO]at hmv;rw[←hbI]at cI;rw[←hbO]at cO;have hne:=HNO.out p;obtain⟨gb,goff,rfl,hgB⟩:=HG2.out (by omega);have hkl:p<blocks.length:=by rw[←HN.out];exact hlt
       obtain⟨b,hbk⟩:∃ b,blocks[p]? = some b:=⟨_,List.getElem?_eq_getElem hkl⟩
       have hmem:=List.mem_of_getElem? hbk;have hc:=((HBL.out.below (HB2.out.mono hBw)).at rfl p hkl).2;rw[show blocks[p]=b from (List.getElem?_eq_some_iff.1 hbk).2]at hc;obtain⟨c0,c1,c2,c3,c4⟩:=bc hc;have hbI':=(HBI.out b hmem).keeps (HB2.out.mono hBw);obtain⟨iq,ic,eiv,hil9,hig⟩:=hbI'.lies.form;have HBL2:=hid hbI'.lies;have HOKI:=hid hbI'.ins;rw[eiv]at c0 HBL2;obtain⟨il,hil⟩:∃ il,il=b.ins.length:=⟨_,rfl⟩
       rw[←hil]at c0 HBL2 hig hil9;have hgw:gb<w2.heap.size:=by have:=HB2.out.size;omega
       have hst:=Qd (B:=MB) hbk;have HST:=hid hst;have HIL:=hid hil;have HIG:=hid hig;have HMV2:=hid hmv;clear hst hil hig hkl hmem hc hbI' eiv hbI hbO hbk
       have hcs:(bI=false∧bO=false)∨(bI=true∧bO=false)∨(bI=false∧bO=true):=by
        cases bI <;> cases bO <;> simp at hmv ⊢ <;> exact absurd hmv hne
       clear hmv hne;rcases hcs with ⟨rfl,rfl⟩|⟨rfl,rfl⟩|⟨rfl,rfl⟩
       · have HF:=hid (show ok=(zU MB (p+1) (blocks.drop (p+1))).isNone from by rw[HE.out,HST.out,if_pos (by rw[HMV2.out];rfl)])
         go_wp2_with fail
         go_loopw [8,10] (fun q8 q10 wr=>q8 = .bool false∧q10 = .int .i64 0∧w2=wr) (fun _ _ _=>0)
         case atStart=>exact⟨rfl,rfl,rfl⟩
         case round =>
          obtain⟨rfl,rfl,rfl⟩:=hrel
          by_cases hi0:0<il
          · go_wp2_with fail
            go_roundw
            case rel=>exact⟨p+1,hlt,by go_num,trivial,HF⟩
            case measure=>simp[intOf];omega
          · have hi1:il=0:=by omega
            subst hi1;go_wp2_with fail;go_roundw
            case rel=>exact⟨p+1,hlt,by go_num,trivial,HF⟩
            case measure=>simp[intOf];omega
       · have HMK2:=hid (show zZ MB p=zQ true from by rw[HMV2.out];rfl)
         have HST2:=hid (show ok=(match zS 0 (zQ true) b.ins with
          | (some j,_)=>some (p,j)
          | (none,on)=>if b.last=3∧on=2 then some (p,b.ins.length) else zU MB (p+1) (blocks.drop (p+1))).isNone from by
           rw[HE.out,HST.out,if_neg (by rw[HMK2.out];decide),HMK2.out])
         go_wp2_with fail
         go_loopw [8,10] (fun q8 q10 wr=>∃ (i:Nat) (c:Bool),i≤il∧q8 = .bool c∧q10 = .int .i64 (i:Int)∧w2=wr∧Hid (zS 0 (zQ true) b.ins=zS i (zQ c) (b.ins.drop i))) (fun _ q10 _=>il - (intOf q10).toNat)
         case atStart=>exact⟨0,true,by omega,rfl,rfl,rfl,hid rfl⟩
         case round =>
          obtain⟨i,c,hi,rfl,rfl,rfl,HM⟩:=hrel
          by_cases hli:i<il
          · obtain⟨gi,offi,rfl,hgi⟩:=HIG.out (by omega)
            have hkx:i<b.ins.length:=by rw[←HIL.out];exact hli
            obtain⟨x,hx⟩:∃ x,b.ins[i]? = some x:=⟨_,List.getElem?_eq_getElem hkx⟩
            have hxc:=(HBL2.out.at rfl i hkx).2 0 (.int .u8 x.k) (by rw[show b.ins[i]=x from (List.getElem?_eq_some_iff.1 hx).2];rfl);rw[Nat.add_zero]at hxc;have hgiw:gi<w2.heap.size:=by have:=HB2.out.size;omega
            have HMD:=hid (ZR (on:=zQ c) hx);have HWR:=hid (Z9 x.k c);have HNX:=hid (Za x.k c);have HSH:=hid (Y6 x.k w2);obtain⟨s,hs⟩:∃ s,s=vR x.k:=⟨_,rfl⟩
            rw[←hs]at HWR HNX HSH;obtain⟨xk,hxk⟩:∃ xk,xk=x.k:=⟨_,rfl⟩
            rw[←hxk]at hxc HWR HNX HSH HMD hs
            have HBAD:=hid (fun (h:(s && !c || decide (xk=13) && c)=true)=>(show ok=false from by
             have h2:=HM.out;rw[HMD.out,if_pos (HWR.out.2 h)]at h2;rw[HST2.out,h2]
             rfl))
            have HGOOD:=hid (fun (h:(s && !c || decide (xk=13) && c)=false)=>(show zS 0 (zQ true) b.ins=zS (i+1) (zQ (if xk=13∨xk=14 then !c else c)) (b.ins.drop (i+1))from by
             rw[HM.out,HMD.out,if_neg (fun q=>by have:=HWR.out.1 q;rw[h]at this;cases this),HNX.out h]))
            have HS:=hid hs;clear hkx hx hs hxk
            by_cases h13:xk=13
            · subst h13
              have h2:s=false:=by rw[HS.out];rfl
              subst h2;have e13:((13:Int)==13)=true:=rfl;cases c with
              | true =>
               have HF:=hid (HBAD.out (by decide));go_wp2_with fail;refine HSH.out.mono ?_;rintro e w5 ⟨rfl,rfl⟩;go_wp2_with fail;refine bodyPost_ret (v:=.tuple #[.agg #[.int .i64 (p:Int),.int .i64 (i:Int)],.bool false]) (yw (p:=2) (u:=3) rfl _ _ (w.heap.size+1) _ _ _ rfl rfl (y9 HSP.out _ _)) rfl ?_;exact⟨⟨_,_,by rw[HF.out]⟩,(HB2.out.setCell (by show w.heap.size≤w.heap.size+1;omega) _).setCell (by show w.heap.size≤w.heap.size+1;omega) _⟩
              | false =>
               have HGO:=hid (HGOOD.out (by decide));go_wp2_with fail;refine HSH.out.mono ?_;rintro e w5 ⟨rfl,rfl⟩;go_wp2_with fail;go_roundw
               case rel=>exact⟨i+1,true,hli,rfl,by go_num,trivial,hid HGO.out⟩
               case measure=>simp[intOf];omega
            · have e13:(xk==13)=false:=by simpa using h13
              by_cases h14:xk=14
              · subst h14
                have h2:s=true:=by rw[HS.out];rfl
                subst h2;cases c with
                | false =>
                 have HF:=hid (HBAD.out (by decide));go_wp2_with fail;refine HSH.out.mono ?_;rintro e w5 ⟨rfl,rfl⟩;go_wp2_with fail;refine bodyPost_ret (v:=.tuple #[.agg #[.int .i64 (p:Int),.int .i64 (i:Int)],.bool false]) (yw (p:=2) (u:=3) rfl _ _ (w.heap.size+1) _ _ _ rfl rfl (y9 HSP.out _ _)) rfl ?_;exact⟨⟨_,_,by rw[HF.out]⟩,(HB2.out.setCell (by show w.heap.size≤w.heap.size+1;omega) _).setCell (by show w.heap.size≤w.heap.size+1;omega) _⟩
                | true =>
                 have HGO:=hid (HGOOD.out (by decide));go_wp2_with fail;refine HSH.out.mono ?_;rintro e w5 ⟨rfl,rfl⟩;go_wp2_with fail;go_roundw
                 case rel=>exact⟨i+1,false,hli,rfl,by go_num,trivial,hid HGO.out⟩
                 case measure=>simp[intOf];omega
              · have e14:(xk==14)=false:=by simpa using h14
                have hcs:(s=true∧c=false)∨(s=true∧c=true)∨(s=false∧c=true)∨(s=false∧c=false):=by cases s <;> cases c <;> simp
                rcases hcs with ⟨rfl,rfl⟩|⟨rfl,rfl⟩|⟨rfl,rfl⟩|⟨rfl,rfl⟩
                · have HF:=hid (HBAD.out (by simp))
                  clear h13 h14;go_wp2_with fail;refine HSH.out.mono ?_;rintro e w5 ⟨rfl,rfl⟩;go_wp2_with fail;refine bodyPost_ret (v:=.tuple #[.agg #[.int .i64 (p:Int),.int .i64 (i:Int)],.bool false]) (yw (p:=2) (u:=3) rfl _ _ (w.heap.size+1) _ _ _ rfl rfl (y9 HSP.out _ _)) rfl ?_;exact⟨⟨_,_,by rw[HF.out]⟩,(HB2.out.setCell (by show w.heap.size≤w.heap.size+1;omega) _).setCell (by show w.heap.size≤w.heap.size+1;omega) _⟩
                · have HGO:=hid (HGOOD.out (by simp[h13]))
                  have HGO:=hid (show zS 0 (zQ true) b.ins=zS (i+1) (zQ true) (b.ins.drop (i+1))from by have:=HGO.out;rw[if_neg (by omega)]at this;exact this);clear h13 h14;go_wp2_with fail;refine HSH.out.mono ?_;rintro e w5 ⟨rfl,rfl⟩;go_wp2_with fail;go_roundw
                  case rel=>exact⟨i+1,true,hli,rfl,by go_num,trivial,hid HGO.out⟩
                  case measure=>simp[intOf];omega
                · have HGO:=hid (HGOOD.out (by simp[h13]))
                  have HGO:=hid (show zS 0 (zQ true) b.ins=zS (i+1) (zQ true) (b.ins.drop (i+1))from by have:=HGO.out;rw[if_neg (by omega)]at this;exact this);clear h13 h14;go_wp2_with fail;refine HSH.out.mono ?_;rintro e w5 ⟨rfl,rfl⟩;go_wp2_with fail;go_roundw
                  case rel=>exact⟨i+1,true,hli,rfl,by go_num,trivial,hid HGO.out⟩
                  case measure=>simp[intOf];omega
                · have HGO:=hid (HGOOD.out (by simp[h13]))
                  have HGO:=hid (show zS 0 (zQ true) b.ins=zS (i+1) (zQ false) (b.ins.drop (i+1))from by have:=HGO.out;rw[if_neg (by omega)]at this;exact this);clear h13 h14;go_wp2_with fail;refine HSH.out.mono ?_;rintro e w5 ⟨rfl,rfl⟩;go_wp2_with fail;go_roundw
                  case rel=>exact⟨i+1,false,hli,rfl,by go_num,trivial,hid HGO.out⟩
                  case measure=>simp[intOf];omega
          · have hii:i=il:=by omega
            have hend:zS 0 (zQ true) b.ins=(none,zQ c):=by rw[HM.out,List.drop_eq_nil_of_le (by rw[←HIL.out];omega)];rfl
            have hfin:=HST2.out;rw[hend]at hfin;have HFIN:=hid (show ok=(if b.last=3∧zQ c=2 then some (p,b.ins.length) else zU MB (p+1) (blocks.drop (p+1))).isNone from hfin);subst hii;obtain⟨lk,hlk⟩:∃ lk,lk=b.last:=⟨_,rfl⟩
            rw[←hlk]at c1 HFIN;clear hend hfin hlk hli;cases c with
            | false =>
             have HF:=hid (show ok=(zU MB (p+1) (blocks.drop (p+1))).isNone from by rw[HFIN.out,if_neg (by rintro⟨-,q⟩;cases q)]);go_wp2_with fail;go_roundw
             case rel=>exact⟨p+1,hlt,by go_num,trivial,HF⟩
             case measure=>simp[intOf];omega
            | true =>
             by_cases h3:lk=3
             · subst h3
               have HF:=hid (show ok=false from by rw[HFIN.out,if_pos ⟨rfl,rfl⟩];rfl);go_wp2_with fail;refine bodyPost_ret (v:=.tuple #[.agg #[.int .i64 (p:Int),.int .i64 (i:Int)],.bool false]) (yw (p:=2) (u:=3) rfl _ _ (w.heap.size+1) _ _ _ rfl rfl (y9 HSP.out _ _)) rfl ?_;exact⟨⟨_,_,by rw[HF.out]⟩,(HB2.out.setCell (by show w.heap.size≤w.heap.size+1;omega) _).setCell (by show w.heap.size≤w.heap.size+1;omega) _⟩
             · have e3:(lk==3)=false:=by simpa using h3
               have HF:=hid (show ok=(zU MB (p+1) (blocks.drop (p+1))).isNone from by rw[HFIN.out,if_neg (by rintro⟨q,-⟩;exact h3 q)]);clear h3;go_wp2_with fail;go_roundw
               case rel=>exact⟨p+1,hlt,by go_num,trivial,HF⟩
               case measure=>simp[intOf];omega
       · have HMK2:=hid (show zZ MB p=zQ false from by rw[HMV2.out];rfl)
         have HST2:=hid (show ok=(match zS 0 (zQ false) b.ins with
          | (some j,_)=>some (p,j)
          | (none,on)=>if b.last=3∧on=2 then some (p,b.ins.length) else zU MB (p+1) (blocks.drop (p+1))).isNone from by
           rw[HE.out,HST.out,if_neg (by rw[HMK2.out];decide),HMK2.out])
         go_wp2_with fail
         go_loopw [8,10] (fun q8 q10 wr=>∃ (i:Nat) (c:Bool),i≤il∧q8 = .bool c∧q10 = .int .i64 (i:Int)∧w2=wr∧Hid (zS 0 (zQ false) b.ins=zS i (zQ c) (b.ins.drop i))) (fun _ q10 _=>il - (intOf q10).toNat)
         case atStart=>exact⟨0,false,by omega,rfl,rfl,rfl,hid rfl⟩
         case round =>
          obtain⟨i,c,hi,rfl,rfl,rfl,HM⟩:=hrel
          by_cases hli:i<il
          · obtain⟨gi,offi,rfl,hgi⟩:=HIG.out (by omega)
            have hkx:i<b.ins.length:=by rw[←HIL.out];exact hli
            obtain⟨x,hx⟩:∃ x,b.ins[i]? = some x:=⟨_,List.getElem?_eq_getElem hkx⟩
            have hxc:=(HBL2.out.at rfl i hkx).2 0 (.int .u8 x.k) (by rw[show b.ins[i]=x from (List.getElem?_eq_some_iff.1 hx).2];rfl);rw[Nat.add_zero]at hxc;have hgiw:gi<w2.heap.size:=by have:=HB2.out.size;omega
            have HMD:=hid (ZR (on:=zQ c) hx);have HWR:=hid (Z9 x.k c);have HNX:=hid (Za x.k c);have HSH:=hid (Y6 x.k w2);obtain⟨s,hs⟩:∃ s,s=vR x.k:=⟨_,rfl⟩
            rw[←hs]at HWR HNX HSH;obtain⟨xk,hxk⟩:∃ xk,xk=x.k:=⟨_,rfl⟩
            rw[←hxk]at hxc HWR HNX HSH HMD hs
            have HBAD:=hid (fun (h:(s && !c || decide (xk=13) && c)=true)=>(show ok=false from by
             have h2:=HM.out;rw[HMD.out,if_pos (HWR.out.2 h)]at h2;rw[HST2.out,h2]
             rfl))
            have HGOOD:=hid (fun (h:(s && !c || decide (xk=13) && c)=false)=>(show zS 0 (zQ false) b.ins=zS (i+1) (zQ (if xk=13∨xk=14 then !c else c)) (b.ins.drop (i+1))from by
             rw[HM.out,HMD.out,if_neg (fun q=>by have:=HWR.out.1 q;rw[h]at this;cases this),HNX.out h]))
            have HS:=hid hs;clear hkx hx hs hxk
            by_cases h13:xk=13
            · subst h13
              have h2:s=false:=by rw[HS.out];rfl
              subst h2;have e13:((13:Int)==13)=true:=rfl;cases c with
              | true =>
               have HF:=hid (HBAD.out (by decide));go_wp2_with fail;refine HSH.out.mono ?_;rintro e w5 ⟨rfl,rfl⟩;go_wp2_with fail;refine bodyPost_ret (v:=.tuple #[.agg #[.int .i64 (p:Int),.int .i64 (i:Int)],.bool false]) (yw (p:=2) (u:=3) rfl _ _ (w.heap.size+1) _ _ _ rfl rfl (y9 HSP.out _ _)) rfl ?_;exact⟨⟨_,_,by rw[HF.out]⟩,(HB2.out.setCell (by show w.heap.size≤w.heap.size+1;omega) _).setCell (by show w.heap.size≤w.heap.size+1;omega) _⟩
              | false =>
               have HGO:=hid (HGOOD.out (by decide));go_wp2_with fail;refine HSH.out.mono ?_;rintro e w5 ⟨rfl,rfl⟩;go_wp2_with fail;go_roundw
               case rel=>exact⟨i+1,true,hli,rfl,by go_num,trivial,hid HGO.out⟩
               case measure=>simp[intOf];omega
            · have e13:(xk==13)=false:=by simpa using h13
              by_cases h14:xk=14
              · subst h14
                have h2:s=true:=by rw[HS.out];rfl
                subst h2;cases c with
                | false =>
                 have HF:=hid (HBAD.out (by decide));go_wp2_with fail;refine HSH.out.mono ?_;rintro e w5 ⟨rfl,rfl⟩;go_wp2_with fail;refine bodyPost_ret (v:=.tuple #[.agg #[.int .i64 (p:Int),.int .i64 (i:Int)],.bool false]) (yw (p:=2) (u:=3) rfl _ _ (w.heap.size+1) _ _ _ rfl rfl (y9 HSP.out _ _)) rfl ?_;exact⟨⟨_,_,by rw[HF.out]⟩,(HB2.out.setCell (by show w.heap.size≤w.heap.size+1;omega) _).setCell (by show w.heap.size≤w.heap.size+1;omega) _⟩
                | true =>
                 have HGO:=hid (HGOOD.out (by decide));go_wp2_with fail;refine HSH.out.mono ?_;rintro e w5 ⟨rfl,rfl⟩;go_wp2_with fail;go_roundw
                 case rel=>exact⟨i+1,false,hli,rfl,by go_num,trivial,hid HGO.out⟩
                 case measure=>simp[intOf];omega
              · have e14:(xk==14)=false:=by simpa using h14
                have hcs:(s=true∧c=false)∨(s=true∧c=true)∨(s=false∧c=true)∨(s=false∧c=false):=by cases s <;> cases c <;> simp
                rcases hcs with ⟨rfl,rfl⟩|⟨rfl,rfl⟩|⟨rfl,rfl⟩|⟨rfl,rfl⟩
                · have HF:=hid (HBAD.out (by simp))
                  clear h13 h14;go_wp2_with fail;refine HSH.out.mono ?_;rintro e w5 ⟨rfl,rfl⟩;go_wp2_with fail;refine bodyPost_ret (v:=.tuple #[.agg #[.int .i64 (p:Int),.int .i64 (i:Int)],.bool false]) (yw (p:=2) (u:=3) rfl _ _ (w.heap.size+1) _ _ _ rfl rfl (y9 HSP.out _ _)) rfl ?_;exact⟨⟨_,_,by rw[HF.out]⟩,(HB2.out.setCell (by show w.heap.size≤w.heap.size+1;omega) _).setCell (by show w.heap.size≤w.heap.size+1;omega) _⟩
                · have HGO:=hid (HGOOD.out (by simp[h13]))
                  have HGO:=hid (show zS 0 (zQ false) b.ins=zS (i+1) (zQ true) (b.ins.drop (i+1))from by have:=HGO.out;rw[if_neg (by omega)]at this;exact this);clear h13 h14;go_wp2_with fail;refine HSH.out.mono ?_;rintro e w5 ⟨rfl,rfl⟩;go_wp2_with fail;go_roundw
                  case rel=>exact⟨i+1,true,hli,rfl,by go_num,trivial,hid HGO.out⟩
                  case measure=>simp[intOf];omega
                · have HGO:=hid (HGOOD.out (by simp[h13]))
                  have HGO:=hid (show zS 0 (zQ false) b.ins=zS (i+1) (zQ true) (b.ins.drop (i+1))from by have:=HGO.out;rw[if_neg (by omega)]at this;exact this);clear h13 h14;go_wp2_with fail;refine HSH.out.mono ?_;rintro e w5 ⟨rfl,rfl⟩;go_wp2_with fail;go_roundw
                  case rel=>exact⟨i+1,true,hli,rfl,by go_num,trivial,hid HGO.out⟩
                  case measure=>simp[intOf];omega
                · have HGO:=hid (HGOOD.out (by simp[h13]))
                  have HGO:=hid (show zS 0 (zQ false) b.ins=zS (i+1) (zQ false) (b.ins.drop (i+1))from by have:=HGO.out;rw[if_neg (by omega)]at this;exact this);clear h13 h14;go_wp2_with fail;refine HSH.out.mono ?_;rintro e w5 ⟨rfl,rfl⟩;go_wp2_with fail;go_roundw
                  case rel=>exact⟨i+1,false,hli,rfl,by go_num,trivial,hid HGO.out⟩
                  case measure=>simp[intOf];omega
          · have hii:i=il:=by omega
            have hend:zS 0 (zQ false) b.ins=(none,zQ c):=by rw[HM.out,List.drop_eq_nil_of_le (by rw[←HIL.out];omega)];rfl
            have hfin:=HST2.out;rw[hend]at hfin;have HFIN:=hid (show ok=(if b.last=3∧zQ c=2 then some (p,b.ins.length) else zU MB (p+1) (blocks.drop (p+1))).isNone from hfin);subst hii;obtain⟨lk,hlk⟩:∃ lk,lk=b.last:=⟨_,rfl⟩
            rw[←hlk]at c1 HFIN;clear hend hfin hlk hli;cases c with
            | false =>
             have HF:=hid (show ok=(zU MB (p+1) (blocks.drop (p+1))).isNone from by rw[HFIN.out,if_neg (by rintro⟨-,q⟩;cases q)]);go_wp2_with fail;go_roundw
             case rel=>exact⟨p+1,hlt,by go_num,trivial,HF⟩
             case measure=>simp[intOf];omega
            | true =>
             by_cases h3:lk=3
             · subst h3
               have HF:=hid (show ok=false from by rw[HFIN.out,if_pos ⟨rfl,rfl⟩];rfl);go_wp2_with fail;refine bodyPost_ret (v:=.tuple #[.agg #[.int .i64 (p:Int),.int .i64 (i:Int)],.bool false]) (yw (p:=2) (u:=3) rfl _ _ (w.heap.size+1) _ _ _ rfl rfl (y9 HSP.out _ _)) rfl ?_;exact⟨⟨_,_,by rw[HF.out]⟩,(HB2.out.setCell (by show w.heap.size≤w.heap.size+1;omega) _).setCell (by show w.heap.size≤w.heap.size+1;omega) _⟩
             · have e3:(lk==3)=false:=by simpa using h3
               have HF:=hid (show ok=(zU MB (p+1) (blocks.drop (p+1))).isNone from by rw[HFIN.out,if_neg (by rintro⟨q,-⟩;exact h3 q)]);clear h3;go_wp2_with fail;go_roundw
               case rel=>exact⟨p+1,hlt,by go_num,trivial,HF⟩
               case measure=>simp[intOf];omega
     · have hpk:p=k:=by omega
       subst hpk;have HF:=hid (show ok=true from by rw[HE.out,HN.out,List.drop_length];rfl);clear hlt;go_wp2_with fail;refine bodyPost_ret (v:=.tuple #[.agg #[.int .i64 0,.int .i64 0],.bool true]) (yw (p:=2) (u:=3) rfl _ _ (w.heap.size+1) _ _ _ rfl rfl (y9 HSP.out _ _)) rfl ?_;exact⟨⟨_,_,by rw[HF.out]⟩,(HB2.out.setCell (by show w.heap.size≤w.heap.size+1;omega) _).setCell (by show w.heap.size≤w.heap.size+1;omega) _⟩
