import Derived.Test.YtlboinokdhmacaaGreatDoorIrCheck
import Derived.Test.YtlboinokdhmacaaGreatDoorRlAlone
import Derived.Test.YtlboinokdhmacaaGreatDoorRlMis
namespace Go.Proofs.YtlboinokdhmacaaGreatDoor
set_option maxHeartbeats 64000000
set_option maxRecDepth 1000000
open Lib(hid)
open Go.RowKit
attribute [local go_sem ↓] zL zJ
theorem qi {w:World} {k:Nat} {o:Obj} (h:w.heap[k]? = some o):k<w.heap.size:=(Array.getElem?_eq_some_iff.1 h).1
def OneE (W:Int) (g:Gr) (w:World) (e:Ending) (w':World):Prop:=(∃ a b x:Int,e = .returned (.tuple #[.agg #[.int .i64 a,.int .i64 b],.int .i64 x])∧(x=0↔(yH W g).2=0))∧Below w.heap.size w w'
theorem z1g {W:Int} {g:Gr} (h:xM g≠0):(yH W g).2=xM g:=by unfold yH;rw[if_neg h]
theorem z1d {W:Int} {g:Gr} (h:xM g=0):(yH W g).2=match yz g.refs W g.blocks.length 0 (List.replicate g.sites.toNat false) g.blocks with
 | some _=>14
 | none=>(wF g.blocks).2:=by
 unfold yH;rw[if_pos h];cases yz g.refs W g.blocks.length 0 (List.replicate g.sites.toNat false) g.blocks <;> rfl
theorem VN (B:Nat) (g:Gr) (W:Int) (w:World) (hI:GIn w B g) (hBw:B≤w.heap.size) (hW:-9223372036854775808≤W∧W≤9223372036854775807) :
 Calls Tryz.prog 120 #[.agg #[g.rv,.int .i64 g.sites,g.bv],.int .i64 W] w (OneE W g w):=by
 obtain⟨ro,rc,er,-,-⟩:=hI.rlies.form;obtain⟨bo,bc,eb,-,-⟩:=hI.blies.form;have hr:=hI.sites;have HCT:=hid (fun (u:World) (hu:Below w.heap.size w u)=>z0j B g u (hI.keeps (hu.mono hBw)) (Nat.le_trans hBw hu.size));have HMI:=hid (fun (u:World) (hu:Below w.heap.size w u) (h0:0<g.blocks.length) (hn:g.blocks.length≤4096) (hv:∀ b ∈ g.blocks,∀ y ∈ zC b,0≤y∧y<(g.blocks.length:Int))=>Ja B g u (hI.keeps (hu.mono hBw)) (Nat.le_trans hBw hu.size) h0 hn hv);have HGI:=hid (fun (u:World) (hu:Below w.heap.size w u)=>hI.keeps (hu.mono hBw));have HNO:=hid (fun h=>@z1g W g h);have HYES:=hid (fun h=>@z1d W g h);have HSO:=hid (fun h=>@Z8 g h);obtain⟨E,hE⟩:∃ E,E=xM g:=⟨_,rfl⟩
 rw[←hE]at HNO HYES HSO;have HCT:=hid (fun (u:World) (hu:Below w.heap.size w u)=>(show Calls Tryz.prog 193 #[.agg #[g.rv,.int .i64 g.sites,g.bv]] u fun e w'=>e = .returned (.int .i64 E)∧Below u.heap.size u w' from by rw[hE];exact HCT.out u hu));have HE:=hid hE;clear hI hE;obtain⟨gw,hgw⟩:∃ x,x=g:=⟨_,rfl⟩
 have hrv:=congrArg Gr.rv hgw;have hsi:=congrArg Gr.sites hgw;have hbv:=congrArg Gr.bv hgw;obtain⟨NR,hNR⟩:∃ N,N=g.refs.length:=⟨_,rfl⟩
 obtain⟨NB,hNB⟩:∃ N,N=g.blocks.length:=⟨_,rfl⟩
 obtain⟨sites,hst⟩:∃ N,N=g.sites:=⟨_,rfl⟩
 rw[←hNR]at er;rw[←hNB]at eb;rw[er,eb,←hst]at HCT HMI;rw[er,eb,←hst];rw[←hst]at hr;have HST:=hid (And.intro hst (And.intro er eb));have HNB:=hid hNB;clear hgw hrv hsi hbv hNR hst er eb hNB;obtain⟨W0,hW0⟩:∃ W0,W0=(w.alloc (.cells #[.slice ro NR rc,.int .i64 sites,.slice bo NB bc] 75)).alloc (.cells #[.int .i64 0,.int .i64 0] 92):=⟨_,rfl⟩
 have z1:(w.alloc (.cells #[.slice ro NR rc,.int .i64 sites,.slice bo NB bc] 75)).heap.size=w.heap.size+1:=by simp
 have hz0:W0.heap.size=w.heap.size+1+1:=by rw[hW0];simp
 have hB0:Below w.heap.size w W0:=by rw[hW0];exact (ze w _).alloc (by omega) _
 have hO:W0.heap[w.heap.size]? = some (.cells #[.slice ro NR rc,.int .i64 sites,.slice bo NB bc] 75 (0,0)):=by rw[hW0,Below.heap_alloc _ _ _ (by omega)];exact (MapKept.heap_alloc _ _).1
 have hS:W0.heap[w.heap.size+1]? = some (.cells #[.int .i64 0,.int .i64 0] 92 (0,0)):=by rw[hW0,←z1];exact (MapKept.heap_alloc _ _).1
 have HC0:=hid (HCT.out W0 hB0);obtain⟨p0,p1,p2⟩:=yl hO;have e1:=zH 92 #[] #[.int .i64 0,.int .i64 0] (by kernel_rfl);have e5:=fun (b n:Nat)=>zH 328 #[(0,.agg #[.slice ro NR rc,.int .i64 sites,.slice bo NB bc]),(1,.int .i64 W),(2,.slice (some ⟨b,0,none⟩) n n)] #[.slice ro NR rc,.int .i64 sites,.slice bo NB bc,.int .i64 W,.slice (some ⟨b,0,none⟩) n n] (by kernel_rfl)
 have HZ0:=hid hz0;have HB0:=hid hB0;have HO:=hid hO;have HS:=hid hS;have HW0:=hid hW0;rw[hW0]at p0 p1 p2;clear hB0 hO hS hW0 z1 hz0
 by_cases hE0:E=0
 · obtain⟨⟨hs1,hs2⟩,hb1,hb2'⟩:=HSO.out hE0
   rw[←HST.out.1]at hs1 hs2;have HYF:=hid (HYES.out hE0);subst hE0;obtain⟨n,hn⟩:∃ n:Nat,sites=(n:Int):=⟨sites.toNat,by omega⟩
   subst hn;have hmk:=uu n (by omega);obtain⟨M,hM⟩:∃ M,M=((List.replicate n false).map Value.bool).toArray:=⟨_,rfl⟩
   rw[←hM]at hmk;have HM:=hid hM;have HSM:=hid (And.intro hs2 (And.intro hb1 hb2'));clear hM hb1 hb2' hs1;go_enter Tryz.func120,Tryz.ntmps120;go_wp2_with fail;rw[←HW0.out];refine HC0.out.mono ?_;rintro e w2 ⟨rfl,hb2⟩;have hO2:=(hb2.block w.heap.size (by rw[HZ0.out];omega)).trans HO.out;have HS2:=hid ((hb2.block (w.heap.size+1) (by rw[HZ0.out];omega)).trans HS.out);have HB2:=hid (HB0.out.trans (hb2.mono HB0.out.size));have HO2:=hid hO2;have hl2:w.heap.size+1<w2.heap.size:=by have:=hb2.size;have:=HZ0.out;omega
   clear p0 p1 p2 hb2;obtain⟨p0,p1,p2⟩:=yl hO2;clear hO2;go_wp2_with fail;refine wp_region_held_drew (S:=zk (w.heap.size+1) w2) (by kernel_rfl) (zk.drew _ _) (fun hSw=>?_);refine tG 0 (.agg #[.slice ro NR rc,.int .i64 (n:Int),.slice bo NB bc]) hSw (fun W hW=>?_) ?_
   · have p0:=hW.cell (by dsimp only;omega) p0
     have p1:=hW.cell (by dsimp only;omega) p1;have p2:=hW.cell (by dsimp only;omega) p2
     first|(go_simp;done)|rfl
   (try simp only[nS]);refine tH 1 (.int .i64 W) hSw ?_;(try simp only[nS]);refine tH 2 (.pointer (some ⟨w.heap.size,0+1,none⟩)) hSw ?_;(try simp only[nS]);refine tG 3 (.int .i64 (n:Int)) hSw (fun W hW=>?_) ?_
   · have p1:=hW.cell (by dsimp only;omega) p1
     first|(go_simp;done)|rfl
   (try simp only[nS]);refine tR 4 (fun K hK=>?_);clear hSw;go_simp;refine hK.out _ _ (fun k hk=>(Below.heap_alloc _ _ _ (by show k<w2.heap.size;omega))) (fun hSw=>?_);clear hK K;(try simp only[nS]);refine tG 5 (.agg #[.slice ro NR rc,.int .i64 (n:Int),.slice bo NB bc,.int .i64 W,.slice (some ⟨w2.heap.size,0,none⟩) n n]) hSw (fun W hW=>?_) ?_
   · have e5x:=e5 w2.heap.size n;first|(go_simp;done)|rfl
   (try simp only[nS]);refine tR 6 (fun K hK=>?_);clear hSw;go_simp;refine hK.out _ _ (fun k hk=>(Below.heap_alloc _ _ _ (by show k<((w2.drew).alloc _).heap.size;simp;omega)).trans (Below.heap_alloc _ _ _ (by show k<w2.heap.size;omega))) (fun hSw=>?_);clear hK K;(try simp only[nS]);refine tH 7 (.pointer (some ⟨w2.heap.size+1,0,none⟩)) hSw ?_;(try simp only[nS]);refine wpAnyH_done (by kernel_rfl) ?_ _;go_wp2_with fail;obtain⟨V,hV⟩:∃ V,V=((w2.alloc (.cells M 4)).alloc (.cells #[.slice ro NR rc,.int .i64 (n:Int),.slice bo NB bc,.int .i64 W,.slice (some ⟨w2.heap.size,0,none⟩) n n] 328)).drew:=⟨_,rfl⟩
   have hs3:(w2.alloc (.cells M 4)).heap.size=w2.heap.size+1:=by simp
   have hbV:Below w2.heap.size w2 V:=by rw[hV];exact below_drewN ((ze w2 _).alloc (by rw[hs3];omega) _) 1
   have hzV:V.heap.size=w2.heap.size+1+1:=by rw[hV];show ((w2.alloc _).alloc _).heap.size=_;simp
   have hbw:=HB2.out.trans (hbV.mono (by have:=HB2.out.size;omega));have hlen:(List.replicate n false).length=n:=by simp
   have hLK:zG V B (w2.heap.size+1) w2.heap.size g W (List.replicate n false):=by
    refine⟨?_, ?_,HGI.out V hbw,⟨by have:=HB2.out.size;omega,by have:=HB2.out.size;omega,by omega,Nat.le_trans hBw hbw.size⟩,hW,by rw[hlen];omega,by rw[hlen,←HST.out.1]⟩
    · have h:=(MapKept.heap_alloc (w2.alloc (.cells M 4)) (.cells #[.slice ro NR rc,.int .i64 (n:Int),.slice bo NB bc,.int .i64 W,.slice (some ⟨w2.heap.size,0,none⟩) n n] 328)).1
      rw[hs3]at h;rw[hV,HST.out.2.1,HST.out.2.2,←HST.out.1,hlen];exact h
    · rw[hV,←HM.out]
      exact (Below.heap_alloc (w2.alloc (.cells M 4)) _ _ (by rw[hs3];omega)).trans (MapKept.heap_alloc w2 _).1
   have HAL:=hid (K3 B (w2.heap.size+1) w2.heap.size g W (List.replicate n false) V hLK);have HBV:=hid hbw;have HSV:=hid ((hbV.block (w.heap.size+1) hl2).trans HS2.out);have HOV:=hid ((hbV.block w.heap.size (by omega)).trans HO2.out);have HV:=hid hV;have HZV:=hid hzV;have HF1:=hid (fun h=>YB g.blocks 0 (List.replicate n false) (show yz g.refs W g.blocks.length 0 (List.replicate n false) g.blocks=none from h));have hyf:=HYF.out;rw[←HST.out.1,Int.toNat_natCast]at hyf;obtain⟨Y,hY⟩:∃ Y,Y=yz g.refs W g.blocks.length 0 (List.replicate n false) g.blocks:=⟨_,rfl⟩
   rw[←hY]at HAL HF1 hyf;have HYG:=hid hyf;clear hV hbV hzV hbw hLK hs3 hY hyf p0 p1 p2;rw[←HV.out];refine HAL.out.mono ?_;rintro e w3 ⟨⟨a,b,rfl⟩,ha3⟩;obtain⟨w4,hw4⟩:∃ w4,w4=w3.alloc (.cells #[.int .i64 a,.int .i64 b] 92):=⟨_,rfl⟩
   have hb4:Below (w.heap.size+1+1) V w4:=by
    rw[hw4];have h1:=ha3.below (B:=w.heap.size+1+1) (by rw[HZV.out];omega) (by omega);exact h1.alloc (by have:=h1.size;rw[HZV.out]at this;omega) _
   have hS4:=(hb4.block (w.heap.size+1) (by omega)).trans HSV.out;have hO4:=(hb4.block w.heap.size (by omega)).trans HOV.out;have hX4:w4.heap[w3.heap.size]? = some (.cells #[.int .i64 a,.int .i64 b] 92 (0,0)):=by rw[hw4];exact (MapKept.heap_alloc _ _).1
   have hz4:w4.heap.size=w3.heap.size+1:=by rw[hw4];simp
   have hzz:w.heap.size+1<w3.heap.size:=by have:=ha3.size;rw[HZV.out]at this;omega
   have HS4:=hid hS4;have HO4:=hid hO4;have HX4:=hid hX4;have HB4:=hid (HBV.out.trans (hb4.mono (by omega)));have HW4:=hid hw4;obtain⟨x0,x1⟩:=zt hX4;have hS3:=(ha3.block (w.heap.size+1) (by rw[HZV.out];omega) (by omega)).trans HSV.out;have HS3:=hid hS3;have HB3:=hid (HBV.out.trans (ha3.below (B:=w.heap.size) (by rw[HZV.out];omega) (by omega)));obtain⟨s0,s1⟩:=zt hS3;obtain⟨p0,p1,p2⟩:=yl hO4;have f0:=Lib.frozen_of_heap hS3 0;have f1:=Lib.frozen_of_heap hS3 1;have g0:=Lib.frozen_of_heap hX4 0;have g1:=Lib.frozen_of_heap hX4 1;rw[hw4]at x0 x1 p0 p1 p2 g0 g1;clear hS3 hS4 hO4 hX4 hb4 ha3 hw4 hz4;cases Y with
   | some at' =>
    have HF:=hid (show (yH W g).2≠0 from by rw[HYG.out];exact (by decide:(14:Int)≠0));go_wp2_with fail;refine bodyPost_ret (v:=.tuple #[.agg #[.int .i64 a,.int .i64 b],.int .i64 14]) (yw (p:=4) (u:=5) rfl _ _ (w.heap.size+1) _ _ _ rfl rfl ((Below.heap_alloc _ _ _ (by simp[World.setCell];omega)).trans (y9 HS3.out _ _))) rfl ?_;exact⟨⟨_,_,14,rfl,⟨fun q=>(by cases q),fun q=>absurd q HF.out⟩⟩,((HB3.out.setCell (by show w.heap.size≤w.heap.size+1;omega) _).setCell (by show w.heap.size≤w.heap.size+1;omega) _).alloc (by simp[World.setCell];omega) _⟩
   | none =>
    have hlast:=HF1.out rfl;have HMC:=hid (HMI.out w4 HB4.out (by have:=HSM.out.2.1;omega) HSM.out.2.2 (fun b hb=>Yc (Yb (hlast b hb))));clear hlast;have HYS:=hid (show (yH W g).2=(wF g.blocks).2 from HYG.out);go_wp2_with fail;rw[←HW4.out];refine HMC.out.mono ?_;rintro e w5 ⟨⟨a5,b5,rfl⟩,hb5⟩;have hzw4:w3.heap.size<w4.heap.size:=qi HX4.out;have hS5:=(hb5.block (w.heap.size+1) (by omega)).trans HS4.out;have hX5:=(hb5.block w3.heap.size hzw4).trans HX4.out;have HB5:=hid (HB4.out.trans (hb5.mono HB4.out.size));have HS5:=hid hS5;have hz5:w3.heap.size<w5.heap.size:=qi hX5;clear x0 x1 s0 s1 p0 p1 p2 f0 f1 g0 g1 hb5 hzw4;obtain⟨x0,x1⟩:=zt hX5;obtain⟨s0,s1⟩:=zt hS5;have f0:=Lib.frozen_of_heap hS5 0;have f1:=Lib.frozen_of_heap hS5 1;have g0:=Lib.frozen_of_heap hX5 0;have g1:=Lib.frozen_of_heap hX5 1;have HX5:=hid hX5;clear hS5 hX5
    by_cases hok:(wF g.blocks).2=0
    · have HF:=hid (show (yH W g).2=0 from HYS.out.trans hok)
      have hd:decide ((wF g.blocks).2=0)=true:=by simpa using hok
      rw[hd];clear hok hd;go_wp2_with fail;refine bodyPost_ret (v:=.tuple #[.agg #[.int .i64 0,.int .i64 0],.int .i64 0]) (yw (p:=4) (u:=5) rfl _ _ (w.heap.size+1) _ _ _ rfl rfl (y9 ((Below.heap_setCell _ _ _ _ (by show w.heap.size+1≠w3.heap.size;omega)).trans ((Below.heap_setCell _ _ _ _ (by show w.heap.size+1≠w3.heap.size;omega)).trans HS5.out)) _ _)) rfl ?_;exact⟨⟨_,_,0,rfl,⟨fun _=>HF.out,fun _=>rfl⟩⟩,(((HB5.out.setCell (by show w.heap.size≤w3.heap.size;omega) _).setCell (by show w.heap.size≤w3.heap.size;omega) _).setCell (by show w.heap.size≤w.heap.size+1;omega) _).setCell (by show w.heap.size≤w.heap.size+1;omega) _⟩
    · have HF:=hid (show (yH W g).2≠0 from by rw[HYS.out];exact hok)
      have hd:decide ((wF g.blocks).2=0)=false:=by simpa using hok
      rw[hd];clear hok hd;go_wp2_with fail;refine bodyPost_ret (v:=.tuple #[.agg #[.int .i64 a5,.int .i64 b5],.int .i64 14]) (yw (p:=4) (u:=5) rfl _ _ (w.heap.size+1) _ _ _ rfl rfl (y9 ((Below.heap_setCell _ _ _ _ (by show w.heap.size+1≠w3.heap.size;omega)).trans ((Below.heap_setCell _ _ _ _ (by show w.heap.size+1≠w3.heap.size;omega)).trans HS5.out)) _ _)) rfl ?_;exact⟨⟨_,_,14,rfl,⟨fun q=>(by cases q),fun q=>absurd q HF.out⟩⟩,(((HB5.out.setCell (by show w.heap.size≤w3.heap.size;omega) _).setCell (by show w.heap.size≤w3.heap.size;omega) _).setCell (by show w.heap.size≤w.heap.size+1;omega) _).setCell (by show w.heap.size≤w.heap.size+1;omega) _⟩
 · have HF:=hid (HNO.out hE0)
   have HE1:=hid hE0;have eE:(E != 0)=true:=by simpa using hE0
   clear hE0;go_enter Tryz.func120,Tryz.ntmps120;go_wp2_with fail;rw[←HW0.out];refine HC0.out.mono ?_;rintro e w2 ⟨rfl,hb2⟩;have hS2:=(hb2.block (w.heap.size+1) (by rw[HZ0.out];omega)).trans HS.out;have HS2:=hid hS2;have HB2:=hid (HB0.out.trans (hb2.mono HB0.out.size));have f0:=Lib.frozen_of_heap hS2 0;have f1:=Lib.frozen_of_heap hS2 1;obtain⟨s0,s1⟩:=zt hS2;have hl2:w.heap.size+1<w2.heap.size:=(Array.getElem?_eq_some_iff.1 hS2).1;clear hb2 hS2 p0 p1 p2;go_wp2_with fail;refine bodyPost_ret (v:=.tuple #[.agg #[.int .i64 0,.int .i64 0],.int .i64 E]) (yw (p:=4) (u:=5) rfl _ _ (w.heap.size+1) _ _ _ rfl rfl (y9 HS2.out _ _)) rfl ?_;exact⟨⟨0,0,E,rfl,by rw[HF.out]⟩,(HB2.out.setCell (by show w.heap.size≤w.heap.size+1;omega) _).setCell (by show w.heap.size≤w.heap.size+1;omega) _⟩
def RcE (c:Cd) (w:World) (e:Ending) (w':World):Prop:=(∃ t a b x:Int,e = .returned (.tuple #[.int .i64 t,.agg #[.int .i64 a,.int .i64 b],.int .i64 x])∧(x=0↔(xW c.words c.threads).2.2=0))∧Below w.heap.size w w'
theorem z1a {W:Int} {l:List Gr} {k:Nat} {g:Gr} (hg:l[k]? = some g):((xV W k (l.drop k)).2.2=0)↔((yH W g).2=0∧(xV W (k+1) (l.drop (k+1))).2.2=0):=by
 obtain⟨h,e⟩:=List.getElem?_eq_some_iff.1 hg;rw[List.drop_eq_getElem_cons h,e,xV]
 by_cases hz:(yH W g).2=0
 · rw[if_pos hz];simp[hz]
 · rw[if_neg hz];simp[hz]
theorem Zv (B:Nat) (c:Cd) (w:World) (hI:CIn w B c) (hBw:B≤w.heap.size) :
 Calls Tryz.prog 25 #[.agg #[.int .i64 c.words,c.tv]] w (RcE c w):=by
 have hW:=hI.words;obtain⟨bo,bcp,eb,hbl,hbg⟩:=hI.tlies.form;have hr4:=hI.tlies.room;have HTL:=hid hI.tlies;have HTI:=hid hI.threads;clear hI;obtain⟨W,tv,threads⟩:=c;simp only at *;subst eb;obtain⟨N,hN⟩:∃ N,N=threads.length:=⟨_,rfl⟩
 rw[←hN]at hbl hbg HTL hr4;rw[←hN];obtain⟨P,hP⟩:∃ P:Prop,P=((xW W threads).2.2=0):=⟨_,rfl⟩
 have HPE:=hid (show RcE ⟨W,.slice bo N bcp,threads⟩ w=fun e w'=>(∃ t a b x:Int,e = .returned (.tuple #[.int .i64 t,.agg #[.int .i64 a,.int .i64 b],.int .i64 x])∧(x=0↔P))∧Below w.heap.size w w' from by rw[hP];rfl);unfold xW at hP;rw[←hN]at hP;obtain⟨W0,hW0⟩:∃ W0,W0=(w.alloc (.cells #[.int .i64 W,.slice bo N bcp] 24)).alloc (.cells #[.int .i64 0,.int .i64 0] 92):=⟨_,rfl⟩
 have hz0:W0.heap.size=w.heap.size+1+1:=by rw[hW0];simp
 have z1:(w.alloc (.cells #[.int .i64 W,.slice bo N bcp] 24)).heap.size=w.heap.size+1:=by simp
 have hB0:Below w.heap.size w W0:=by rw[hW0];exact (ze w _).alloc (by omega) _
 have hG0:W0.heap[w.heap.size]? = some (.cells #[.int .i64 W,.slice bo N bcp] 24 (0,0)):=by rw[hW0,Below.heap_alloc _ _ _ (by omega)];exact (MapKept.heap_alloc _ _).1
 have hS0:W0.heap[w.heap.size+1]? = some (.cells #[.int .i64 0,.int .i64 0] 92 (0,0)):=by rw[hW0,←z1];exact (MapKept.heap_alloc _ _).1
 have HSQ:=hid (fun (u:World) (hu:Below W0.heap.size W0 u)=>(hu.block (w.heap.size+1) (by omega)).trans hS0);have HGQ:=hid (fun (u:World) (hu:Below W0.heap.size W0 u)=>zt ((hu.block w.heap.size (by omega)).trans hG0));have HBW:=hid (fun (u:World) (hu:Below W0.heap.size W0 u)=>hB0.trans (hu.mono (show w.heap.size≤W0.heap.size by omega)));have HC:=hid (fun (g:Gr) (hg:g ∈ threads) (u:World) (hu:Below w.heap.size w u)=>VN B g W u ((HTI.out g hg).keeps (hu.mono hBw)) (Nat.le_trans hBw hu.size) hW);obtain⟨q0,q1⟩:=zt hG0;have hso:=HSQ.out W0 (Below.refl _ _);have HSO:=hid hso;have f0:=Lib.frozen_of_heap hso 0;have f1:=Lib.frozen_of_heap hso 1;obtain⟨s0,s1⟩:=zt hso;have hB00:=hid hB0;have e1:=zH 92 #[] #[.int .i64 0,.int .i64 0] (by kernel_rfl);have HN:=hid hN;have HG2:=hid hbg;have HZ0:=hid hz0;have hz:w.heap.size+1<W0.heap.size:=by omega
 have hz':w.heap.size<W0.heap.size:=by omega
 have HW0:=hid hW0;rw[hW0]at q0 q1 f0 f1 s0 s1;clear hN hbg hB0 hG0 hS0 hso z1 hW0 hz0;rw[HPE.out]
 by_cases a1:65536<W
 · rw[if_pos (.inl a1)]at hP
   have HF:=hid hP;clear hP;go_enter Tryz.func25,Tryz.ntmps25;go_wp2_with fail
   try rw[←HW0.out]
   refine bodyPost_ret (v:=.tuple #[.int .i64 0,.agg #[.int .i64 0,.int .i64 0],.int .i64 3]) (vz (t:=2) (p:=3) (u:=4) rfl _ _ (w.heap.size+1) _ _ _ _ rfl rfl rfl HSO.out) rfl ?_;exact⟨⟨0,0,0,3,rfl,by rw[HF.out]⟩,hB00.out⟩
 by_cases a2:4<N
 · rw[if_pos (.inr a2)]at hP
   have HF:=hid hP;clear hP;go_enter Tryz.func25,Tryz.ntmps25;go_wp2_with fail
   try rw[←HW0.out]
   refine bodyPost_ret (v:=.tuple #[.int .i64 0,.agg #[.int .i64 0,.int .i64 0],.int .i64 3]) (vz (t:=2) (p:=3) (u:=4) rfl _ _ (w.heap.size+1) _ _ _ _ rfl rfl rfl HSO.out) rfl ?_;exact⟨⟨0,0,0,3,rfl,by rw[HF.out]⟩,hB00.out⟩
 rw[if_neg (by omega)]at hP
 by_cases a3:W<0
 · rw[if_pos a3]at hP
   have HF:=hid hP;clear hP;go_enter Tryz.func25,Tryz.ntmps25;go_wp2_with fail
   try rw[←HW0.out]
   refine bodyPost_ret (v:=.tuple #[.int .i64 0,.agg #[.int .i64 0,.int .i64 0],.int .i64 14]) (vz (t:=2) (p:=3) (u:=4) rfl _ _ (w.heap.size+1) _ _ _ _ rfl rfl rfl HSO.out) rfl ?_;exact⟨⟨0,0,0,14,rfl,by rw[HF.out]⟩,hB00.out⟩
 rw[if_neg a3]at hP;have HPL:=hid hP;clear hP;go_enter Tryz.func25,Tryz.ntmps25;go_wp2_with fail;rw[←HW0.out];clear q0 q1 f0 f1 s0 s1
 go_loopw [5] (fun q wr=>∃ k:Nat,k≤N∧q = .int .i64 (k:Int)∧Below W0.heap.size W0 wr∧Hid (P=((xV W k (threads.drop k)).2.2=0))) (fun q _=>N - (intOf q).toNat)
 case atStart=>exact⟨0,by omega,rfl,Below.refl _ _,hid HPL.out⟩
 case round =>
  obtain⟨k,hk,rfl,hB,HD⟩:=hrel
  rename World=>V
  obtain⟨q0,q1⟩:=HGQ.out V hB;have hszV:=hB.size
  by_cases hlt:k<N
  · obtain⟨gb,goff,rfl,hgB⟩:=HG2.out (by omega)
    have hkl:k<threads.length:=by rw[←HN.out];exact hlt
    obtain⟨g,hg⟩:∃ g,threads[k]? = some g:=⟨_,List.getElem?_eq_getElem hkl⟩
    have hmem:=List.mem_of_getElem? hg;have hbw:=HBW.out V hB;have hc:=((HTL.out.below (hbw.mono hBw)).at rfl k hkl).2;rw[show threads[k]=g from (List.getElem?_eq_some_iff.1 hg).2]at hc;obtain⟨c0,c1,c2⟩:=gc3 hc;have hst:=z1a (W:=W) hg;have HST:=hid hst;have HON:=hid (fun (u:World) (hu:Below V.heap.size V u)=>HC.out g hmem u (hbw.trans (hu.mono hbw.size)));obtain⟨ro,rcc,er,-,-⟩:=((HTI.out g hmem).rlies).form;obtain⟨xo,xc,ex,-,-⟩:=((HTI.out g hmem).blies).form;obtain⟨n1,hn1⟩:∃ x,x=g.refs.length:=⟨_,rfl⟩
    obtain⟨n2,hn2⟩:∃ x,x=g.blocks.length:=⟨_,rfl⟩
    obtain⟨st,hst2⟩:∃ x,x=g.sites:=⟨_,rfl⟩
    rw[←hn1]at er;rw[←hn2]at ex;rw[er]at c0 HON;rw[←hst2]at c1 HON;rw[ex]at c2 HON;have hgw:gb<V.heap.size:=by have:=hbw.size;omega
    have HB:=hid hB;clear hst hkl hmem hbw hc er ex hn1 hn2 hst2 hB;go_wp2_with fail;refine wp_region_held_drew (S:=zk (V.heap.size) V) (by kernel_rfl) (zk.drew _ _) (fun hSw=>?_);refine tH 0 (.pointer (some ⟨w.heap.size,0+1,none⟩)) hSw ?_;(try simp only[nS]);refine tG 1 (.slice (some ⟨gb,goff,none⟩) N bcp) hSw (fun W hW=>?_) ?_
    · have q1:=hW.cell (by dsimp only;omega) q1
      first|(go_simp;done)|rfl
    (try simp only[nS]);refine tH 2 (.int .i64 (k:Int)) hSw ?_;(try simp only[nS]);refine tH 3 (.pointer (some ⟨gb,goff+k*3,none⟩)) hSw ?_;(try simp only[nS]);refine tG 4 (.agg #[.slice ro n1 rcc,.int .i64 st,.slice xo n2 xc]) hSw (fun W hW=>?_) ?_
    · have c0:=hW.cell (by dsimp only;omega) c0
      have c1:=hW.cell (by dsimp only;omega) c1;have c2:=hW.cell (by dsimp only;omega) c2
      first|(go_simp;done)|rfl
    (try simp only[nS]);refine tH 5 (.pointer (some ⟨w.heap.size,0,none⟩)) hSw ?_;(try simp only[nS]);refine tG 6 (.int .i64 W) hSw (fun W hW=>?_) ?_
    · have q0:=hW.cell (by dsimp only;omega) q0
      first|(go_simp;done)|rfl
    (try simp only[nS]);refine wpAnyH_ready (rs:=[7,11]) (by kernel_rfl) (by simp) ?_;refine AllReadyH.cons (o:={ dst:=some 37,op:=Op.call { callee:=Callee.value (Operand.func 120),args:=#[Operand.tmp 34,Operand.tmp 36],argTypes:=#[75,3] },type:=125,pos := "ref.go:278", after:=#[{ on:=4,ground:=Ground.data },{ on:=6,ground:=Ground.data }],guard:=none }) rfl (fun K hK=>?_) (AllReadyH.cons (o:={ dst:=some 6,op:=Op.alloc 92,type:=0,pos := "ref.go:278", after:=#[],guard:=none }) rfl (fun K hK=>?_) AllReadyH.nil)
    · rw[if_pos (by rfl)]
      clear hSw;go_simp;refine (HON.out _ (below_drewN (Below.refl _ _) 1)).mono ?_;rintro e w5 ⟨⟨xa,xb,xe,rfl,hxe⟩,hb5⟩;have HXE:=hid hxe;have HB5:=hid (show Below V.heap.size V w5 from⟨hb5.os,hb5.tape,hb5.output,hb5.size,hb5.block⟩);have HB5b:=hid hb5;clear hb5 hxe;refine hK.out _ _ (fun k hk=>HB5.out.block k hk) (fun hSw=>?_);clear hK K;(try simp only[nS]);refine tH 8 (.tuple #[.agg #[.int .i64 xa,.int .i64 xb],.int .i64 xe]) hSw ?_;(try simp only[nS]);refine tH 9 (.agg #[.int .i64 xa,.int .i64 xb]) hSw ?_;(try simp only[nS]);refine tH 10 (.int .i64 xe) hSw ?_;(try simp only[nS]);refine tR 11 (fun K hK=>?_);clear hSw;go_simp;refine hK.out _ _ (fun k hk=>(Below.heap_alloc _ _ _ (by have:=HB5.out.size;omega)).trans (HB5.out.block k hk)) (fun hSw=>?_);clear hK K;(try simp only[nS]);refine tR 12 (fun K hK=>?_);clear hSw;go_simp;refine hK.out _ _ (fun k hk=>(Below.heap_alloc _ _ _ (by have:=HB5.out.size;omega)).trans (HB5.out.block k hk)) (fun hSw=>?_);clear hK K;(try simp only[nS]);refine tH 13 (.int .i64 xe) hSw ?_;(try simp only[nS]);refine wpAnyH_done (by kernel_rfl) ?_ _;obtain⟨p6,hp6⟩:∃ p,p=w5.heap.size:=⟨_,rfl⟩
      have HP6:=hid hp6;obtain⟨w6,hw6⟩:∃ w6,w6=w5.alloc (.cells #[.int .i64 xa,.int .i64 xb] 92):=⟨_,rfl⟩
      have hx6:w6.heap[p6]? = some (.cells #[.int .i64 xa,.int .i64 xb] 92 (0,0)):=by rw[hw6,hp6];exact (MapKept.heap_alloc _ _).1
      have hb6:Below V.heap.size V w6:=by rw[hw6];exact HB5.out.alloc HB5.out.size _
      rw[←hp6];rw[←hw6];have hpV:w.heap.size+1<p6:=by rw[HP6.out];have:=HB5.out.size;omega
      clear hp6 hw6;have HX6:=hid hx6;have HB6:=hid hb6;have hlp:=qi hx6;obtain⟨x0,x1⟩:=zt hx6;have hs6:=HSQ.out w6 (HB.out.trans (hb6.mono HB.out.size));have HS6:=hid hs6;have HBW6:=hid (HBW.out w6 (HB.out.trans (hb6.mono HB.out.size)));have HBQ6:=hid (HB.out.trans (hb6.mono HB.out.size));have f0:=Lib.frozen_of_heap hs6 0;have f1:=Lib.frozen_of_heap hs6 1;obtain⟨s0,s1⟩:=zt hs6;have hlw6:w.heap.size+1<w6.heap.size:=qi hs6;clear hx6 hb6 hs6 q0 q1 c0 c1 c2
      by_cases hx:xe=0
      · have hd:(xe != 0)=false:=by simpa using hx
        have HF:=hid (show P=((xV W (k+1) (threads.drop (k+1))).2.2=0)from by rw[HD.out];exact propext (HST.out.trans ⟨fun h=>h.2,fun h=>⟨HXE.out.1 hx,h⟩⟩));clear hx f0 f1;go_wp2_with fail;go_roundw
        case rel=>exact⟨k+1,hlt,by go_num,HBQ6.out,HF⟩
        case measure=>simp[intOf];omega
      · have hd:(xe != 0)=true:=by simpa using hx
        have HF:=hid (show ¬ P from by rw[HD.out];exact fun h=>hx (HXE.out.2 (HST.out.1 h).1));have HX:=hid hx;clear hx;go_wp2_with fail;refine wp_region_held_drew (S:=zn (fun x=>x≠w.heap.size+1∧x<w6.heap.size) w6) (by kernel_rfl) (zn.drew _ _) (fun hSw=>?_);refine tH 0 (.int .i64 (k:Int)) hSw ?_;(try simp only[nS]);refine tG 1 (.agg #[.int .i64 xa,.int .i64 xb]) hSw (fun W hW=>?_) ?_
        · have x0:=hW.cell (by dsimp only;omega) x0
          have x1:=hW.cell (by dsimp only;omega) x1
          first|(go_simp;done)|rfl
        (try simp only[nS]);refine tH 2 (.int .i64 xe) hSw ?_;(try simp only[nS]);refine tH 3 (.int .i64 (k:Int)) hSw ?_;(try simp only[nS]);refine tR 4 (fun K hK=>?_);clear hSw;go_simp;refine hK.out _ _ (fun q hq=>(Below.heap_setCell _ _ _ _ hq.1).trans (Below.heap_setCell _ _ _ _ hq.1)) (fun hSw=>?_);clear hK K;(try simp only[nS]);refine tH 5 (.int .i64 xe) hSw ?_;(try simp only[nS]);refine wpAnyH_done (by kernel_rfl) ?_ _;go_wp2_with fail;refine bodyPost_ret (v:=.tuple #[.int .i64 (k:Int),.agg #[.int .i64 xa,.int .i64 xb],.int .i64 xe]) (vz (t:=2) (p:=3) (u:=4) rfl _ _ (w.heap.size+1) _ _ _ _ rfl rfl rfl (y9 HS6.out _ _)) rfl ?_;exact⟨⟨_,_,_,xe,rfl,⟨fun q=>absurd q HX.out,fun q=>absurd q HF.out⟩⟩,below_drewN ((HBW6.out.setCell (p:=⟨w.heap.size+1,0,none⟩) (by show w.heap.size≤w.heap.size+1;omega) _).setCell (p:=⟨w.heap.size+1,1,none⟩) (by show w.heap.size≤w.heap.size+1;omega) _) 1⟩
    · rw[if_pos (by rfl)]
      clear hSw;go_simp;refine hK.out _ _ (fun k hk=>Below.heap_alloc _ _ _ (by show k<V.heap.size;omega)) (fun hSw=>?_);clear hK K;(try simp only[nS]);refine tR 7 (fun K hK=>?_);clear hSw;go_simp;have hbA:Below V.heap.size V ((V.drew).alloc (.cells #[.int .i64 0,.int .i64 0] 92)):=(below_drewN (Below.refl _ _) 1).alloc (Nat.le_refl _) _;have hxA:((V.drew).alloc (.cells #[.int .i64 0,.int .i64 0] 92)).heap[V.heap.size]? = some (.cells #[.int .i64 0,.int .i64 0] 92 (0,0)):=(MapKept.heap_alloc (V.drew) _).1;have hzA:((V.drew).alloc (.cells #[.int .i64 0,.int .i64 0] 92)).heap.size=V.heap.size+1:=by show ((V.drew).heap.push _).size=_;simp
      refine (HON.out _ hbA).mono ?_;rintro e w5 ⟨⟨xa,xb,xe,rfl,hxe⟩,hb5⟩;have HXE:=hid hxe;have HB5:=hid (show Below V.heap.size V w5 from hbA.trans (hb5.mono hbA.size));have HB5b:=hid hb5;clear hb5 hxe;have hx5:=(HB5b.out.block V.heap.size (by rw[hzA];omega)).trans hxA;have HX5:=hid hx5;obtain⟨y0,y1⟩:=zt hx5;have j0:=Lib.frozen_of_heap hx5 0;have j1:=Lib.frozen_of_heap hx5 1;have hl5:V.heap.size<w5.heap.size:=qi hx5;clear hbA hxA hzA hx5;refine hK.out _ _ (fun k hk=>HB5.out.block k hk) (fun hSw=>?_);clear hK K;(try simp only[nS]);refine tH 8 (.tuple #[.agg #[.int .i64 xa,.int .i64 xb],.int .i64 xe]) hSw ?_;(try simp only[nS]);refine tH 9 (.agg #[.int .i64 xa,.int .i64 xb]) hSw ?_;(try simp only[nS]);refine tH 10 (.int .i64 xe) hSw ?_;(try simp only[nS]);refine tR 12 (fun K hK=>?_);clear hSw;go_simp;refine hK.out _ _ (fun k hk=>(Below.heap_setCell _ _ _ _ (by show k≠V.heap.size;omega)).trans ((Below.heap_setCell _ _ _ _ (by show k≠V.heap.size;omega)).trans (HB5.out.block k hk))) (fun hSw=>?_);clear hK K;(try simp only[nS]);refine tH 13 (.int .i64 xe) hSw ?_;(try simp only[nS]);refine wpAnyH_done (by kernel_rfl) ?_ _;obtain⟨p6,hp6⟩:∃ p,p=V.heap.size:=⟨_,rfl⟩
      have HP6:=hid hp6;obtain⟨w6,hw6⟩:∃ w6,w6=(w5.setCell ⟨V.heap.size,0,none⟩ (.int .i64 xa)).setCell ⟨V.heap.size,1,none⟩ (.int .i64 xb):=⟨_,rfl⟩
      have hx6:w6.heap[p6]? = some (.cells #[.int .i64 xa,.int .i64 xb] 92 (0,0)):=by rw[hw6,hp6];exact y9 HX5.out _ _
      have hb6:Below V.heap.size V w6:=by rw[hw6];exact (HB5.out.setCell (by show V.heap.size≤V.heap.size;omega) _).setCell (by show V.heap.size≤V.heap.size;omega) _
      clear y0 y1 j0 j1;rw[←hw6];rw[←hp6];have hpV:w.heap.size+1<p6:=by rw[HP6.out];have:=HB5.out.size;omega
      clear hp6 hw6;have HX6:=hid hx6;have HB6:=hid hb6;have hlp:=qi hx6;obtain⟨x0,x1⟩:=zt hx6;have hs6:=HSQ.out w6 (HB.out.trans (hb6.mono HB.out.size));have HS6:=hid hs6;have HBW6:=hid (HBW.out w6 (HB.out.trans (hb6.mono HB.out.size)));have HBQ6:=hid (HB.out.trans (hb6.mono HB.out.size));have f0:=Lib.frozen_of_heap hs6 0;have f1:=Lib.frozen_of_heap hs6 1;obtain⟨s0,s1⟩:=zt hs6;have hlw6:w.heap.size+1<w6.heap.size:=qi hs6;clear hx6 hb6 hs6 q0 q1 c0 c1 c2
      by_cases hx:xe=0
      · have hd:(xe != 0)=false:=by simpa using hx
        have HF:=hid (show P=((xV W (k+1) (threads.drop (k+1))).2.2=0)from by rw[HD.out];exact propext (HST.out.trans ⟨fun h=>h.2,fun h=>⟨HXE.out.1 hx,h⟩⟩));clear hx f0 f1;go_wp2_with fail;go_roundw
        case rel=>exact⟨k+1,hlt,by go_num,HBQ6.out,HF⟩
        case measure=>simp[intOf];omega
      · have hd:(xe != 0)=true:=by simpa using hx
        have HF:=hid (show ¬ P from by rw[HD.out];exact fun h=>hx (HXE.out.2 (HST.out.1 h).1));have HX:=hid hx;clear hx;go_wp2_with fail;refine wp_region_held_drew (S:=zn (fun x=>x≠w.heap.size+1∧x<w6.heap.size) w6) (by kernel_rfl) (zn.drew _ _) (fun hSw=>?_);refine tH 0 (.int .i64 (k:Int)) hSw ?_;(try simp only[nS]);refine tG 1 (.agg #[.int .i64 xa,.int .i64 xb]) hSw (fun W hW=>?_) ?_
        · have x0:=hW.cell (by dsimp only;omega) x0
          have x1:=hW.cell (by dsimp only;omega) x1
          first|(go_simp;done)|rfl
        (try simp only[nS]);refine tH 2 (.int .i64 xe) hSw ?_;(try simp only[nS]);refine tH 3 (.int .i64 (k:Int)) hSw ?_;(try simp only[nS]);refine tR 4 (fun K hK=>?_);clear hSw;go_simp;refine hK.out _ _ (fun q hq=>(Below.heap_setCell _ _ _ _ hq.1).trans (Below.heap_setCell _ _ _ _ hq.1)) (fun hSw=>?_);clear hK K;(try simp only[nS]);refine tH 5 (.int .i64 xe) hSw ?_;(try simp only[nS]);refine wpAnyH_done (by kernel_rfl) ?_ _;go_wp2_with fail;refine bodyPost_ret (v:=.tuple #[.int .i64 (k:Int),.agg #[.int .i64 xa,.int .i64 xb],.int .i64 xe]) (vz (t:=2) (p:=3) (u:=4) rfl _ _ (w.heap.size+1) _ _ _ _ rfl rfl rfl (y9 HS6.out _ _)) rfl ?_;exact⟨⟨_,_,_,xe,rfl,⟨fun q=>absurd q HX.out,fun q=>absurd q HF.out⟩⟩,below_drewN ((HBW6.out.setCell (p:=⟨w.heap.size+1,0,none⟩) (by show w.heap.size≤w.heap.size+1;omega) _).setCell (p:=⟨w.heap.size+1,1,none⟩) (by show w.heap.size≤w.heap.size+1;omega) _) 1⟩
  · have hkn:k=N:=by omega
    have HF:=hid (show P from by
     have hnil:threads.drop k=[]:=List.drop_eq_nil_of_le (by rw[←HN.out];omega);rw[HD.out,hnil]
     rfl)
    have hso:=HSQ.out V hB;have HSO:=hid hso;have HBF:=hid (HBW.out V hB);have f0:=Lib.frozen_of_heap hso 0;have f1:=Lib.frozen_of_heap hso 1;obtain⟨s0,s1⟩:=zt hso;have hlV:w.heap.size+1<V.heap.size:=qi hso;clear hso hB;go_wp2_with fail;refine bodyPost_ret (v:=.tuple #[.int .i64 0,.agg #[.int .i64 0,.int .i64 0],.int .i64 0]) (vz (t:=2) (p:=3) (u:=4) rfl _ _ (w.heap.size+1) _ _ _ _ rfl rfl rfl (y9 HSO.out _ _)) rfl ?_;exact⟨⟨0,0,0,0,rfl,⟨fun _=>HF.out,fun _=>rfl⟩⟩,(HBF.out.setCell (by show w.heap.size≤w.heap.size+1;omega) _).setCell (by show w.heap.size≤w.heap.size+1;omega) _⟩
