import Derived.Test.YtlboinokdhmacaaGreatDoorBqGrowW
namespace Go.Proofs.YtlboinokdhmacaaGreatDoor
set_option maxHeartbeats 64000000
set_option maxRecDepth 1000000
open Lib(hid)
section
open Go.RowKit
attribute [local go_sem ↓] zL zJ
def OkS (n:Nat) (x:Value × Int):Prop:=x.2=99∧∃ q cp,x.1 = .slice q (1+n % 40) cp
theorem Zr (n:Nat):Int.tmod (n:Int) 40=((n % 40:Nat):Int):=by
 rw[Int.tmod_eq_emod_of_nonneg (by omega)];omega
theorem ZW (n:Nat) (h:n≤1000000) (w:World):Calls Tryz.prog 136 #[.int .i64 (n:Int)] w fun e w'=>∃ g,e = .returned (.agg #[.slice (some ⟨g,0,none⟩) (1+n % 40) (1+n % 40),.int .u8 99])∧Below w.heap.size w w':=by
 obtain⟨M,hM⟩:∃ M,M=1+n % 40:=⟨_,rfl⟩
 rw[←hM];have hM4:M≤40:=by omega
 have hr:Int.tmod (n:Int) 40=(M:Int) - 1:=by rw[Zr];omega
 have hw:IntKind.i64.wrap (1+((M:Int) - 1))=(M:Int):=by rw[show 1+((M:Int) - 1)=(M:Int)by omega];exact IntWalk.i64_in _ (by omega)
 have hw1:IntKind.i64.wrap ((M:Int) - 1)=(M:Int) - 1:=IntWalk.i64_in _ (by omega);have emk:=jy M (by omega);have ebl:=fun (q:Option Addr)=>zH 108 #[(1,.int .u8 99),(0,.slice q M M)] #[.slice q M M,.int .u8 99] (by kernel_rfl)
 clear hM;go_enter Tryz.func136,Tryz.ntmps136;go_wp2_with fail;refine bodyPost_ret (v:=.agg #[.slice (some ⟨w.heap.size+1,0,none⟩) M M,.int .u8 99]) (results_cell_row rfl _ _ w.heap.size 108 _ (0,0) _ rfl ((Below.heap_alloc _ _ _ (by simp)).trans (MapKept.heap_alloc w _).1) Tryz.underlying108 rfl (by kernel_rfl)) rfl ?_;exact⟨_,rfl,(ze w _).alloc (by simp) _⟩
theorem Ka (n:Nat) (h:n≤1000000) (q:Option Addr) (cp:Nat) (w:World):Calls Tryz.prog 160 #[.agg #[.slice q (1+n % 40) cp,.int .u8 99],.int .i64 (n:Int)] w fun e w'=>e = .returned (.bool true)∧Below w.heap.size w w':=by
 obtain⟨M,hM⟩:∃ M,M=1+n % 40:=⟨_,rfl⟩
 rw[←hM];have hM4:M≤40:=by omega
 have hr:Int.tmod (n:Int) 40=(M:Int) - 1:=by rw[Zr];omega
 have hw:IntKind.i64.wrap (1+((M:Int) - 1))=(M:Int):=by rw[show 1+((M:Int) - 1)=(M:Int)by omega];exact IntWalk.i64_in _ (by omega)
 have hw1:IntKind.i64.wrap ((M:Int) - 1)=(M:Int) - 1:=IntWalk.i64_in _ (by omega);clear hM;have HB:=hid (ze w (.cells #[.slice q M cp,.int .u8 99] 108));obtain⟨x0,x1⟩:=zt (MapKept.heap_alloc w (.cells #[.slice q M cp,.int .u8 99] 108)).1;go_enter Tryz.func160,Tryz.ntmps160;go_wp2_with fail;go_ret;exact⟨rfl,HB.out⟩
structure wQ (nS:List (Value × Nat)) (d d':Nat→List (Value × Int)) (i k:Nat):Prop where
 len:∀ j,(d' j).length=(d j).length
 done:∀ j,j<i→∀ y ∈ d' j,OkS (numOf nS j) y
 part:∀ (m:Nat) y,m<k→(d' i)[m]? = some y→OkS (numOf nS i) y
theorem wQ.start (nS:List (Value × Nat)) (d:Nat→List (Value × Int)):wQ nS d d 0 0:=⟨fun _=>rfl,fun _ h=>by omega,fun _ _ h=>by omega⟩
theorem wQ.step {nS:List (Value × Nat)} {d d':Nat→List (Value × Int)} {i k:Nat} (h:wQ nS d d' i k) (hk:k<(d' i).length) {y:Value × Int} (hy:OkS (numOf nS i) y):wQ nS d (cU d' i ((d' i).set k y)) i (k+1):=by
 refine⟨fun j=>?_,fun j hj z hz=>?_,fun m z hm hz=>?_⟩
 · by_cases e:j=i
   · subst e;rw[vC,List.length_set];exact h.len j
   · rw[qo _ _ e];exact h.len j
 · rw[qo _ _ (by omega)]at hz
   exact h.done j hj z hz
 · rw[vC,List.getElem?_set]at hz
   by_cases e:k=m
   · subst e
     rw[if_pos rfl,if_pos hk]at hz;cases hz;exact hy
   · rw[if_neg e]at hz
     exact h.part m z (by omega) hz
theorem wQ.next {nS:List (Value × Nat)} {d d':Nat→List (Value × Int)} {i k:Nat} (h:wQ nS d d' i k) (hk:(d' i).length≤k):wQ nS d d' (i+1) 0:=by
 refine⟨h.len,fun j hj z hz=>?_,fun m z hm=>by omega⟩
 by_cases e:j=i
 · subst e
   obtain⟨m,hm⟩:=List.mem_iff_getElem?.1 hz;exact h.part m z (Nat.lt_of_lt_of_le (List.getElem?_eq_some_iff.1 hm).1 hk) hm
 · exact h.done j (by omega) z hz
theorem UU {ow:Nat→Nat} {w:World} {K cnt:Nat} {vW vS:Value} {nW nS:List (Value × Nat)} {c:Nat→List Int} {d:Nat→List (Value × Int)} (h:BQ ow w K cnt vW vS nW c nS d) (hn:nS.length≤1000) (hnum:∀ j,numOf nS j≤1000000) (hlen:∀ (i:Nat) x,nS[i]? = some x→(d i).length≤4000000) :
 Calls Tryz.prog 44 #[.pointer (some ⟨K,0,none⟩)] w fun e w'=>e = .returned (.tuple #[])∧Zq ow w w'∧∃ d',wQ nS d d' nS.length 0∧BQ ow w' K cnt vW vS nW c nS d':=by
 obtain⟨qS,cS,eS,-⟩:=wG h.rowS;subst eS;have k3:w.cell? ⟨K,15,none⟩ = some (.slice qS nS.length cS):=zh h.box 15 _ rfl;have hK:=z8 h.box;have HH:=hid h;have HNUM:=hid hnum;have HLEN:=hid hlen;obtain⟨N,hN⟩:∃ N,N=nS.length:=⟨_,rfl⟩
 rw[←hN]at k3 hn ⊢;have HN:=hid hN;clear h hN hnum hlen;go_enter Tryz.func44,Tryz.ntmps44;go_wp2_with fail
 go_loopw [10] (fun iv wr=>∃ (i:Nat) (d':Nat→List (Value × Int)),i≤N∧iv = .int .i64 (i:Int)∧Hid (Zq ow w wr∧wQ nS d d' i 0∧BQ ow wr K cnt vW (.slice qS N cS) nW c nS d')) (fun iv _=>N - (intOf iv).toNat)
 case atStart=>exact⟨0,d,by omega,rfl,hid ⟨.refl _ _,.start _ _,by rw[HN.out];exact HH.out⟩⟩
 case round =>
  obtain⟨i,d',hiN,rfl,hR⟩:=hrel
  by_cases hlt:i<N
  · obtain⟨x,hx⟩:∃ x,nS[i]? = some x:=⟨_,List.getElem?_eq_getElem (by rw[←HN.out];exact hlt)⟩
    have k3:wr.cell? ⟨K,15,none⟩ = some (.slice qS N cS):=zh hR.out.2.2.box 15 _ rfl;have hK:=z8 hR.out.2.2.box;obtain⟨gW,rfl,hgW,-,h0,h1,-⟩:=hR.out.2.2.atS hx;obtain⟨xq,xc,ex,-⟩:=wG (hR.out.2.2.seen i x hx).1;rw[hR.out.2.1.len]at ex;obtain⟨xv,n⟩:=x;simp only at ex h0 h1;subst ex;obtain⟨M,hM⟩:∃ M,M=(d i).length:=⟨_,rfl⟩
    have HX:=hid hx;have hM4:M≤4000000:=by rw[hM];exact HLEN.out i _ hx
    have hnn:numOf nS i=n:=qU hx;have hn6:n≤1000000:=by rw[←hnn];exact HNUM.out i
    have HNN:=hid hnn;rw[←hM]at h0;have HM:=hid hM;have HMA:=hid (fun u=>ZW n hn6 u);have HR:=hR;clear hR hx hM hnn;go_wp2_with fail
    go_loopw [24] (fun iv wi=>∃ (k:Nat) (d':Nat→List (Value × Int)),k≤M∧iv = .int .i64 (k:Int)∧Hid (Zq ow w wi∧wQ nS d d' i k∧BQ ow wi K cnt vW (.slice (some ⟨gW,0,none⟩) N cS) nW c nS d')) (fun iv _=>M - (intOf iv).toNat)
    case atStart=>exact⟨0,d',by omega,rfl,HR⟩
    case round =>
     obtain⟨k,d2,hkM,rfl,hT⟩:=hrel
     by_cases hk:k<M
     · have hkc:k<(d2 i).length:=by rw[hT.out.2.1.len,←HM.out];exact hk
       obtain⟨g,cp,e,-,hgl,-,-,-,-,-⟩:=hT.out.2.2.putS HX.out hkc;obtain⟨gW',e2,hgW1,hgWl,h0,h1,-⟩:=hT.out.2.2.atS HX.out;cases e2;rw[hT.out.2.1.len,←HM.out]at e;simp only[Value.slice.injEq]at e;obtain⟨rfl,-,rfl⟩:=e;have hgne:gW≠g:=fun q=>by rw[q]at hgWl;omega
       obtain⟨V,hV⟩:∃ V,V=wr.drew:=⟨_,rfl⟩
       have hVb:Below wr.heap.size wr V:=by rw[hV];exact⟨rfl,rfl,rfl,Nat.le_refl _,fun _ _=>rfl⟩
       have HV:=hid hV;have HVB:=hid hVb;simp only at h0 h1;rw[←HM.out]at h0;clear hVb hV;go_wp2_with fail;refine wp_region_held_drew (S:=zn (fun x=>x=gW) wr) (by kernel_rfl) (zn.drew _ _) (fun hSw=>?_);rw[←HV.out];rw[←HV.out]at hSw;refine tH 0 (.pointer (some ⟨gW,i*2,none⟩)) hSw ?_;(try simp only[nS]);refine tH 1 (.pointer (some ⟨gW,i*2,none⟩)) hSw ?_;(try simp only[nS]);refine tH 2 (.pointer (some ⟨gW,i*2,none⟩)) hSw ?_;(try simp only[nS]);refine tG 3 (.slice (some ⟨g,0,none⟩) M xc) hSw (fun W hW=>?_) ?_
       · have h0:=hW.cell (by first|rfl|omega|(dsimp only;omega)) h0
         first|(go_simp;done)|rfl
       (try simp only[nS]);refine tH 4 (.int .i64 (k:Int)) hSw ?_;(try simp only[nS]);refine tH 5 (.pointer (some ⟨gW,i*2,none⟩)) hSw ?_;(try simp only[nS]);refine tH 6 (.pointer (some ⟨gW,i*2,none⟩)) hSw ?_;(try simp only[nS]);refine tH 7 (.pointer (some ⟨gW,i*2+1,none⟩)) hSw ?_;(try simp only[nS]);refine tG 8 (.int .i64 (n:Int)) hSw (fun W hW=>?_) ?_
       · have h1:=hW.cell (by first|rfl|omega|(dsimp only;omega)) h1
         first|(go_simp;done)|rfl
       (try simp only[nS]);refine tR 9 (fun K hK=>?_);clear hSw;go_simp;refine (HMA.out _).mono ?_;rintro e w2 ⟨gm,rfl,hb2⟩;have hbV:Below wr.heap.size wr w2:=HVB.out.trans (hb2.mono HVB.out.size);obtain⟨g',cp',e',hg,-,f0,f1,⟨y0,q0⟩,⟨y1,q1⟩,hput⟩:=(hT.out.2.2.below hbV).putS HX.out hkc;simp only[Value.slice.injEq]at e';obtain rfl:g=g':=by simpa using e'.1
       have hp:=hput (.slice (some ⟨gm,0,none⟩) (1+n % 40) (1+n % 40),99)
       have HF:=hid (show Zq ow w ((w2.setCell ⟨g,k*2,none⟩ (.slice (some ⟨gm,0,none⟩) (1+n % 40) (1+n % 40))).setCell ⟨g,k*2+1,none⟩ (.int .u8 99))∧wQ nS d (cU d2 i ((d2 i).set k (.slice (some ⟨gm,0,none⟩) (1+n % 40) (1+n % 40),99))) i (k+1)∧BQ ow ((w2.setCell ⟨g,k*2,none⟩ (.slice (some ⟨gm,0,none⟩) (1+n % 40) (1+n % 40))).setCell ⟨g,k*2+1,none⟩ (.int .u8 99)) _ cnt vW (.slice (some ⟨gW,0,none⟩) N cS) nW c nS (cU d2 i ((d2 i).set k (.slice (some ⟨gm,0,none⟩) (1+n % 40) (1+n % 40),99)))from
        ⟨hT.out.1.trans (.refl _ _) ((Zq.ofb hbV).trans (.refl _ _) (Zq.of hp.2 (by simp <;> omega))),hT.out.2.1.step hkc ⟨rfl,_,_,by rw[HNN.out]⟩,hp.1⟩)
       have HS2:=hid (show w2.heap[gW]? = wr.heap[gW]? from hbV.block gW hgW1);obtain⟨MK,hMK⟩:∃ MK,MK=1+n % 40:=⟨_,rfl⟩
       rw[←hMK]at HF ⊢;clear hb2 hbV hput hp hkc hMK hT;refine hK.out _ _ (fun x hx=>by rw[hx];exact HS2.out) (fun hSw=>?_);clear hK K;(try simp only[nS]);refine tH 10 (.pointer (some ⟨g,k*2,none⟩)) hSw ?_;(try simp only[nS]);refine tR 11 (fun K hK=>?_);clear hSw;go_simp;refine hK.out _ _ (fun x hx=>((Below.heap_setCell _ _ _ _ (by show x≠g;omega)).trans (Below.heap_setCell _ _ _ _ (by show x≠g;omega))).trans (by rw[hx];exact HS2.out)) (fun hSw=>?_);clear hK K;(try simp only[nS]);refine wpAnyH_done (by kernel_rfl) ?_ _;go_wp2_with fail;go_roundw
       case rel=>first|exact⟨k+1,_,hk,by go_num,HF⟩|exact⟨k+1,hk,by first|go_num|omega,_,HF⟩
       case measure=>simp[intOf];omega
     · obtain rfl:M=k:=by omega
       have HF:=hid (show Zq ow w wr∧wQ nS d d2 (i+1) 0∧BQ ow wr K cnt vW (.slice (some ⟨gW,0,none⟩) N cS) nW c nS d2 from⟨hT.out.1,hT.out.2.1.next (by rw[hT.out.2.1.len,←HM.out];exact Nat.le_refl _),hT.out.2.2⟩);clear hT;go_wp2_with fail;go_roundw
       case rel=>exact⟨i+1,d2,hlt,by go_num,HF⟩
       case measure=>simp[intOf];omega
  · obtain rfl:N=i:=by omega
    go_wp2_with fail
    go_end0
    exact⟨rfl,hR.out.1,d',hR.out.2.1,hR.out.2.2⟩
theorem Kr:(Tryz.prog.info? 108).map (fun i=>(i.zero,i.size,i.bytes))=some (some (.agg #[.slice none 0 0,.int .u8 0]),2,32):=by kernel_rfl
theorem Qv (q:Option Addr) (l c:Nat) (n:Int) (w:World):(bls 30 1 #[(0,.agg #[.slice q l c,.int .u8 n])]).run Tryz.prog w = .ok (.slice (some ⟨w.heap.size,0,none⟩) 1 1) (w.alloc (.cells #[.slice q l c,.int .u8 n] 108)):=
 wP 30 108 1 2 #[(0,.agg #[.slice q l c,.int .u8 n])] #[.slice q l c,.int .u8 n] (by kernel_rfl) (by kernel_rfl) (by kernel_rfl) (by omega) (by omega) (by kernel_rfl) (by kernel_rfl) w
theorem WA:∀ (L:List (Value × Int)) (y:Value × Int),yg (L++[y])=yg L++[y.1,.int .u8 y.2]:=by
 intro L y;induction L with
 | nil=>rfl
 | cons z L ih =>
  have e:∀ M,yg (z :: M)=z.1 :: .int .u8 z.2 :: yg M:=fun _=>rfl
  rw[List.cons_append,e,e,ih]
  rfl
structure wV (nS:List (Value × Nat)) (d':Nat→List (Value × Int)) (i g:Nat):Prop where
 all:∀ j,j<nS.length→∀ y ∈ d' j,OkS (numOf nS j) y
 len:∀ j,(d' j).length≤1000+(if j<i then 3 else if j=i then g else 0)
theorem wV.step {nS:List (Value × Nat)} {d':Nat→List (Value × Int)} {i g:Nat} (h:wV nS d' i g) {y:Value × Int} (hy:OkS (numOf nS i) y):wV nS (cU d' i (d' i++[y])) i (g+1):=by
 refine⟨fun j hj z hz=>?_,fun j=>?_⟩
 · by_cases e:j=i
   · subst e
     rw[vC]at hz;rcases List.mem_append.1 hz with hz|hz
     · exact h.all j hj z hz
     · simp at hz;subst hz;exact hy
   · rw[qo _ _ e]at hz
     exact h.all j hj z hz
 · have:=h.len j
   by_cases e:j=i
   · subst e
     rw[vC,List.length_append,List.length_singleton];simp at this ⊢;omega
   · rw[qo _ _ e]
     simp only[e,if_false]at this ⊢;exact this
theorem wV.next {nS:List (Value × Nat)} {d':Nat→List (Value × Int)} {i:Nat} (h:wV nS d' i 3):wV nS d' (i+1) 0:=by
 refine⟨h.all,fun j=>?_⟩;have:=h.len j;split at this
 · rw[if_pos (by omega)];exact this
 · split at this
   · rw[if_pos (by omega)];exact this
   · rw[if_neg (by omega)];split <;> exact this
theorem KZ {ow:Nat→Nat} {w:World} {K cnt:Nat} {vW vS:Value} {nW nS:List (Value × Nat)} {c:Nat→List Int} {d:Nat→List (Value × Int)} (h:BQ ow w K cnt vW vS nW c nS d) (hn:nS.length≤1000) (hnum:∀ j,numOf nS j≤1000000) (hg0:wV nS d 0 0) :
 Calls Tryz.prog 70 #[.pointer (some ⟨K,0,none⟩)] w fun e w'=>e = .returned (.tuple #[])∧Zq ow w w'∧∃ ow' nX d',Ext ow ow' w∧nX.map (·.2)=nS.map (·.2)∧wV nS d' nS.length 0∧BQ ow' w' K cnt vW vS nW c nX d':=by
 obtain⟨qS,cS,eS,-⟩:=wG h.rowS;subst eS;have k3:w.cell? ⟨K,15,none⟩ = some (.slice qS nS.length cS):=zh h.box 15 _ rfl;have hK:=z8 h.box;have HH:=hid h;have HNUM:=hid hnum;have HG0:=hid hg0;obtain⟨N,hN⟩:∃ N,N=nS.length:=⟨_,rfl⟩
 rw[←hN]at k3 hn ⊢;have HN:=hid hN;clear h hN hnum hg0;go_enter Tryz.func70,Tryz.ntmps70;go_wp2_with fail
 go_loopw [10] (fun iv wr=>∃ i:Nat,i≤N∧iv = .int .i64 (i:Int)∧∃ (ow1:Nat→Nat) (nX:List (Value × Nat)) (d1:Nat→List (Value × Int)),Hid (Zq ow w wr∧Ext ow ow1 w∧nX.map (·.2)=nS.map (·.2)∧wV nS d1 i 0∧BQ ow1 wr K cnt vW (.slice qS N cS) nW c nX d1)) (fun iv _=>N - (intOf iv).toNat)
 case atStart=>exact⟨0,by omega,rfl,ow,nS,d,hid ⟨.refl _ _,.refl _ _,rfl,HG0.out,by rw[HN.out];exact HH.out⟩⟩
 case round =>
  obtain⟨i,hiN,rfl,ow1,nX,d1,hR⟩:=hrel
  by_cases hlt:i<N
  · obtain⟨x,hx⟩:∃ x,nX[i]? = some x:=⟨_,List.getElem?_eq_getElem (by have:=congrArg List.length hR.out.2.2.1;simp only[List.length_map]at this;rw[this,←HN.out];exact hlt)⟩
    have k3:wr.cell? ⟨K,15,none⟩ = some (.slice qS N cS):=zh hR.out.2.2.2.2.box 15 _ rfl;have hK:=z8 hR.out.2.2.2.2.box;obtain⟨gW,rfl,hgW,-,-,-,-⟩:=hR.out.2.2.2.2.atS hx;have HR:=hR;clear hR hx;go_wp2_with fail
    go_loopw [4] (fun iv wr=>∃ g:Nat,g≤3∧iv = .int .i64 (g:Int)∧∃ (ow1:Nat→Nat) (nX:List (Value × Nat)) (d1:Nat→List (Value × Int)),Hid (Zq ow w wr∧Ext ow ow1 w∧nX.map (·.2)=nS.map (·.2)∧wV nS d1 i g∧BQ ow1 wr K cnt vW (.slice (some ⟨gW,0,none⟩) N cS) nW c nX d1)) (fun iv _=>3 - (intOf iv).toNat)
    case atStart=>exact⟨0,by omega,rfl,ow1,nX,d1,HR⟩
    case round =>
     obtain⟨g,hg3,rfl,ow2,nY,d2,hT⟩:=hrel
     by_cases hg:g<3
     · have hBQ:=hT.out.2.2.2.2
       obtain⟨x,hx⟩:∃ x,nY[i]? = some x:=⟨_,List.getElem?_eq_getElem (by have:=congrArg List.length hT.out.2.2.1;simp only[List.length_map]at this;rw[this,←HN.out];exact hlt)⟩
       obtain⟨gW',e2,hgW1,hgWl,h0,h1,hf0⟩:=hBQ.atS hx;cases e2;obtain⟨xq,xc,ex,-⟩:=wG (hBQ.seen i x hx).1;obtain⟨V,hV⟩:∃ V,V=wr.drew:=⟨_,rfl⟩
       have hVb:Below wr.heap.size wr V:=by rw[hV];exact⟨rfl,rfl,rfl,Nat.le_refl _,fun _ _=>rfl⟩
       obtain⟨n,hn2⟩:∃ n,n=x.2:=⟨_,rfl⟩
       have hnn:numOf nS i=n:=by rw[←qR hT.out.2.2.1 i,qU hx,hn2]
       have hn6:n≤1000000:=by rw[←hnn];exact HNUM.out i
       have h1:wr.cell? ⟨gW,i*2+1,none⟩ = some (.int .i64 (n:Int)):=by rw[hn2];exact h1
       obtain⟨M,hM⟩:∃ M,M=(d2 i).length:=⟨_,rfl⟩
       have hM4:M≤2000:=by rw[hM];have h:=hT.out.2.2.2.1.len i;simp at h;omega
       have H0:=hid h0;have HF0:=hid hf0;rw[ex,←hM]at h0;have HM:=hid hM;have HEX:=hid ex;have HNN:=hid hnn;have HX:=hid hx;have HBQ:=hid hBQ;have HMA:=hid (fun u=>ZW n hn6 u);have HV:=hid hV;have HVB:=hid hVb;have e3:=Qv;clear hBQ hVb hn2 hV hnn hM ex hx hf0;go_wp2_with fail;refine yO (S:=zn (fun x=>x=gW) wr) (fun j=>decide (12≤j)) (by kernel_rfl) (zn.drew _ _) (fun hSw=>?_);rw[←HV.out];rw[←HV.out]at hSw;refine lH 0 (.pointer (some ⟨gW,i*2,none⟩)) hSw ?_;(try simp only[nS]);refine lH 1 (.pointer (some ⟨gW,i*2,none⟩)) hSw ?_;(try simp only[nS]);refine lH 2 (.pointer (some ⟨gW,i*2,none⟩)) hSw ?_;(try simp only[nS]);refine lH 3 (.pointer (some ⟨gW,i*2,none⟩)) hSw ?_;(try simp only[nS]);refine lG 4 (.slice xq M xc) hSw (fun W hW=>?_) ?_
       · have h0:=hW.cell (by first|rfl|omega|(dsimp only;omega)) h0
         first|(go_simp;done)|rfl
       (try simp only[nS]);refine lH 5 (.pointer (some ⟨gW,i*2,none⟩)) hSw ?_;(try simp only[nS]);refine lH 6 (.pointer (some ⟨gW,i*2,none⟩)) hSw ?_;(try simp only[nS]);refine lH 7 (.pointer (some ⟨gW,i*2+1,none⟩)) hSw ?_;(try simp only[nS]);refine lG 8 (.int .i64 (n:Int)) hSw (fun W hW=>?_) ?_
       · have h1:=hW.cell (by first|rfl|omega|(dsimp only;omega)) h1
         first|(go_simp;done)|rfl
       (try simp only[nS]);refine lR 9 (fun J hK=>?_);clear hSw;go_simp;refine (HMA.out _).mono ?_;rintro e w2 ⟨gm,rfl,hb2⟩;have hbV:Below wr.heap.size wr w2:=HVB.out.trans (hb2.mono HVB.out.size);obtain⟨MK,hMK⟩:∃ MK,MK=1+n % 40:=⟨_,rfl⟩
       rw[←hMK];obtain⟨U,hU⟩:∃ U,U=w2.alloc (.cells #[.slice (some ⟨gm,0,none⟩) MK MK,.int .u8 99] 108):=⟨_,rfl⟩
       have hUb:Below wr.heap.size wr U:=by rw[hU];exact hbV.trans ((ze w2 _).mono hbV.size)
       have hU1:U.heap[w2.heap.size]? = some (.cells #[.slice (some ⟨gm,0,none⟩) MK MK,.int .u8 99] 108 (0,0)):=by rw[hU];exact (MapKept.heap_alloc w2 _).1
       obtain⟨i0,hi,hz,hs,hby⟩:=info_parts Kr;have hsn:=(HBQ.out.below hUb).seen i x HX.out;obtain⟨gq,cap,w8,hrun,hown,ow3,hext,hlab,hbut⟩:=kZ (ty:=30) (lab:=11+2*i) (T:=30) Tryz.underlying30 hi hz hs hby rfl (by omega) hsn.1 hsn.2 ⟨w2.heap.size,0,none⟩ 1 (news:=[.slice (some ⟨gm,0,none⟩) MK MK,.int .u8 99]) rfl (World.news_of_block hU1) (by intro u hu;simp at hu;rcases hu with rfl|rfl <;> rfl) (by rw[←HM.out];omega) (by omega);have heW:Ext ow2 ow3 wr:=fun k hk=>hext k (Nat.lt_of_lt_of_le hk hUb.size)
       have hbW:But ow2 [11+2*i] wr w8:=zw (zi (l:=[]) (But.of hUb) (by simp)) hbut;have hpush:=HBQ.out.pushS HX.out heW hbW (l':=d2 i++[(.slice (some ⟨gm,0,none⟩) MK MK,99)]) (v':=.slice (some ⟨gq,0,none⟩) (M+1) cap) ⟨by rw[List.length_append,List.length_singleton,WA,HM.out];exact hown,fun k hk=>by cases hk;exact hlab⟩;have hmap:(nY.set i (.slice (some ⟨gq,0,none⟩) (M+1) cap,x.2)).map (·.2)=nS.map (·.2):=(Y0 HX.out _).trans hT.out.2.2.1
       have HF:=hid (show Zq ow w (w8.setCell ⟨gW,i*2,none⟩ (.slice (some ⟨gq,0,none⟩) (M+1) cap))∧Ext ow ow3 w∧(nY.set i (.slice (some ⟨gq,0,none⟩) (M+1) cap,x.2)).map (·.2)=nS.map (·.2)∧wV nS (cU d2 i (d2 i++[(.slice (some ⟨gm,0,none⟩) MK MK,99)])) i (g+1)∧BQ ow3 (w8.setCell ⟨gW,i*2,none⟩ (.slice (some ⟨gq,0,none⟩) (M+1) cap)) K cnt vW (.slice (some ⟨gW,0,none⟩) N cS) nW c (nY.set i (.slice (some ⟨gq,0,none⟩) (M+1) cap,x.2)) (cU d2 i (d2 i++[(.slice (some ⟨gm,0,none⟩) MK MK,99)]))from
        ⟨hT.out.1.trans hT.out.2.1 hpush.2,Ext.to hT.out.2.1 heW hT.out.1.size,hmap,hT.out.2.2.2.1.step ⟨rfl,_,_,by rw[HNN.out,←hMK]⟩,hpush.1⟩)
       have h8:w8.heap[gW]? = wr.heap[gW]?:=hbW.block gW hgW1 (by rw[hgWl];simp;omega);have q0:=(uH h8 (i*2)).trans H0.out;have qf:w8.frozen? ⟨gW,i*2,none⟩ = false:=by rw[←HF0.out];simp only[World.frozen?,h8]
       have hl8:gW<w8.heap.size:=Nat.lt_of_lt_of_le hgW1 hbW.size;rw[HEX.out]at hrun q0;rw[←HM.out]at hrun q0;rw[hU]at hrun;have HRUN:=hid hrun;have HS0:=hid (show ∀ y,y=gW→w2.heap[y]? = wr.heap[y]? from fun y hy=>by rw[hy];exact hbV.block gW hgW1);have HS1:=hid (show ∀ y,y=gW→(w2.alloc (.cells #[.slice (some ⟨gm,0,none⟩) MK MK,.int .u8 99] 108)).heap[y]? = wr.heap[y]? from fun y hy=>by rw[←hU,hy];exact hUb.block gW hgW1);have HS2:=hid (show ∀ y,y=gW→w8.heap[y]? = wr.heap[y]? from fun y hy=>by rw[hy];exact h8);clear hb2 hbV hU hUb hU1 hi hz hs hby hsn hrun hown hext hlab hbut heW hbW hpush hmap h8 hMK;refine hK.out _ _ (fun y hy=>HS0.out y hy) (fun hSw=>?_);clear hK J;(try simp only[nS]);refine lR 10 (fun J hK=>?_);clear hSw;go_simp;refine hK.out _ _ (fun y hy=>HS1.out y hy) (fun hSw=>?_);clear hK J;(try simp only[nS]);refine lR 11 (fun J hK=>?_);clear hSw;refine Lib.wp_append_run _ _ _ _ _ rfl _ _ rfl rfl _ _ HRUN.out ?_;refine hK.out _ _ (fun y hy=>HS2.out y hy) (fun hSw=>?_);clear hK J;(try simp only[nS]);refine yP (rs:=[12]) (by kernel_rfl) (by simp) (by rfl) ?_;refine oR 12 (fun J hK=>?_);go_simp;refine hK.out _ _ ?_;clear hK J;(try simp only[nS]);refine oR 13 (fun J hK=>?_);go_simp;refine hK.out _ _ ?_;clear hK J;(try simp only[nS]);refine oR 14 (fun J hK=>?_);go_simp;refine hK.out _ _ ?_;clear hK J;(try simp only[nS]);refine wpAny_done (by kernel_rfl) ?_ _;go_wp2_with fail;go_roundw
       case rel=>exact⟨g+1,hg,by first|go_num|omega,ow3,_,_,HF⟩
       case measure=>simp[intOf];omega
     · obtain rfl:g=3:=by omega
       have HF:=hid (show Zq ow w wr∧Ext ow ow2 w∧nY.map (·.2)=nS.map (·.2)∧wV nS d2 (i+1) 0∧BQ ow2 wr K cnt vW (.slice (some ⟨gW,0,none⟩) N cS) nW c nY d2 from⟨hT.out.1,hT.out.2.1,hT.out.2.2.1,hT.out.2.2.2.1.next,hT.out.2.2.2.2⟩);clear hT;go_wp2_with fail;go_roundw
       case rel=>exact⟨i+1,hlt,by first|go_num|omega,ow2,nY,d2,HF⟩
       case measure=>simp[intOf];omega
  · obtain rfl:N=i:=by omega
    go_wp2_with fail
    go_end0
    refine⟨rfl,hR.out.1, ?_⟩
    first|exact⟨ow1,nX,d1,hR.out.2⟩|exact⟨ow1,hR.out.2.1,nX,d1,hR.out.2.2⟩|exact⟨ow1,hR.out.2.1,nX,hR.out.2.2.1,d1,hR.out.2.2.2⟩
theorem QL {ow:Nat→Nat} {w:World} {K cnt:Nat} {vW vS:Value} {nW nS:List (Value × Nat)} {c:Nat→List Int} {d:Nat→List (Value × Int)} (h:BQ ow w K cnt vW vS nW c nS d) (hn:nS.length≤1000) (hnum:∀ j,numOf nS j≤1000000) (hall:∀ j,j<nS.length→∀ y ∈ d j,OkS (numOf nS j) y) (hlen:∀ i,(d i).length≤8000000) :
 Calls Tryz.prog 97 #[.pointer (some ⟨K,0,none⟩)] w fun e w'=>e = .returned (.bool true)∧Below w.heap.size w w':=by
 obtain⟨qS,cS,eS,-⟩:=wG h.rowS;subst eS;have k3:w.cell? ⟨K,15,none⟩ = some (.slice qS nS.length cS):=zh h.box 15 _ rfl;have hK:=z8 h.box;have HH:=hid h;have HNUM:=hid hnum;have HLEN:=hid hlen;have HALL:=hid hall;obtain⟨N,hN⟩:∃ N,N=nS.length:=⟨_,rfl⟩
 rw[←hN]at k3 hn;have HN:=hid hN;clear h hN hnum hlen hall;go_enter Tryz.func97,Tryz.ntmps97;go_wp2_with fail
 go_loopw [12] (fun iv wr=>∃ i:Nat,i≤N∧iv = .int .i64 (i:Int)∧Below w.heap.size w wr) (fun iv _=>N - (intOf iv).toNat)
 case atStart=>exact⟨0,by omega,rfl,Below.refl _ _⟩
 case round =>
  obtain⟨i,hiN,rfl,hR⟩:=hrel
  by_cases hlt:i<N
  · obtain⟨x,hx⟩:∃ x,nS[i]? = some x:=⟨_,List.getElem?_eq_getElem (by rw[←HN.out];exact hlt)⟩
    have hB:=HH.out.below hR;obtain⟨gW,rfl,hgW,-,h0,h1,-⟩:=hB.atS hx;have htl:=(hB.seen i x hx).1;obtain⟨xq,xc,ex,hxq⟩:=wG htl;obtain⟨n,hn2⟩:∃ n,n=x.2:=⟨_,rfl⟩
    have hnn:numOf nS i=n:=by rw[qU hx,hn2]
    have hn6:n≤1000000:=by rw[←hnn];exact HNUM.out i
    have hM8:(d i).length≤8000000:=HLEN.out i;have hal:=HALL.out i (by rw[←HN.out];exact hlt);rw[hnn]at hal;have HAL:=hid hal;rw[ex]at h0 htl;rw[←hn2]at h1;obtain⟨M,hM⟩:∃ M,M=(d i).length:=⟨_,rfl⟩
    rw[←hM]at h0 htl hM8 hxq;have HM:=hid hM;have HTL:=hid htl;have HXQ:=hid hxq;have HR:=hid hR;have HIS:=hid (fun q cp u=>Ka n hn6 q cp u);have hwz:=hR.size;clear hR hB htl ex hn2 hnn hM hx hal hxq;go_wp2_with fail;obtain⟨WB,hWB⟩:∃ WB,WB=wr.alloc (.cells #[.slice xq M xc,.int .i64 (n:Int)] 135):=⟨_,rfl⟩
    have hbB:Below wr.heap.size wr WB:=by rw[hWB];exact ze wr _
    have hXB:WB.heap[wr.heap.size]? = some (.cells #[.slice xq M xc,.int .i64 (n:Int)] 135 (0,0)):=by rw[hWB];exact (MapKept.heap_alloc wr _).1
    obtain⟨b,hb⟩:∃ b,b=wr.heap.size:=⟨_,rfl⟩
    rw[←hb]at hXB;have HXB:=hid hXB;have HBB:=hid (HR.out.trans (hbB.mono HR.out.size));have HTB:=hid (zM (ow:=fun _=>0) (l:=0) HTL.out (But.of (ls:=[]) hbB) (fun _ _=>rfl) (by simp));have HBL:=hid hbB;have hWBs:=HBB.out.size;rw[←hb];have HWB:=hid hWB;have hlb:=z8 hXB;rw[←HWB.out];clear hbB hXB hWB h0 h1 hb
    go_loopw [19] (fun iv wi=>∃ k:Nat,k≤M∧iv = .int .i64 (k:Int)∧Below WB.heap.size WB wi) (fun iv _=>M - (intOf iv).toNat)
    case atStart=>exact⟨0,by omega,rfl,Below.refl _ _⟩
    case round =>
     obtain⟨k,hkM,rfl,hT⟩:=hrel
     by_cases hk:k<M
     · obtain⟨y,hy⟩:∃ y,(d i)[k]? = some y:=⟨_,List.getElem?_eq_getElem (by rw[←HM.out];exact hk)⟩
       obtain⟨hy9,yq,yc,hys⟩:=HAL.out y (List.mem_of_getElem? hy);obtain⟨g,rfl,hg⟩:=HXQ.out (by omega);have htk:=zM (ow:=fun _=>0) (l:=0) HTB.out (But.of (ls:=[]) hT) (fun _ _=>rfl) (by simp);have c0:=(htk.cellAt (k*2) (by omega)).trans (qP _ k y hy).1;have c1:=(htk.cellAt (k*2+1) (by omega)).trans (qP _ k y hy).2;rw[hys]at c0;rw[hy9]at c1;have hg2:g<wr.heap.size:=by have:=HBL.out.size;have:=hT.size;omega
       have hXk:=(hT.block b hlb).trans HXB.out;obtain⟨b0,b1⟩:=zt hXk;have hlk:=z8 hXk;have HI:=hid (fun u=>HIS.out yq yc u);obtain⟨MK,hMK⟩:∃ MK,MK=1+n % 40:=⟨_,rfl⟩
       rw[←hMK]at HI c0;obtain⟨WC,hWC⟩:∃ WC,WC=wr.alloc (.cells #[.slice yq MK yc,.int .u8 99] 108):=⟨_,rfl⟩
       have hXC:=((ze wr (.cells #[.slice yq MK yc,.int .u8 99] 108)).block b hlk).trans hXk;rw[←hWC]at hXC;obtain⟨d0,d1⟩:=zt hXC;have hYC:WC.heap[wr.heap.size]? = some (.cells #[.slice yq MK yc,.int .u8 99] 108 (0,0)):=by rw[hWC];exact (MapKept.heap_alloc wr _).1
       obtain⟨e0,e1⟩:=zt hYC;rw[hWC]at d0 d1 e0 e1;have hlc:b<(wr.alloc (.cells #[.slice yq MK yc,.int .u8 99] 108)).heap.size:=by rw[←hWC];exact z8 hXC
       have HT:=hid hT;have HC:=hid (show Below wr.heap.size wr (wr.alloc (.cells #[.slice yq MK yc,.int .u8 99] 108))from ze wr _);clear hT htk hy hXk hMK hWC hXC hYC hy9 hys;go_wp2_with fail;refine (HI.out _).mono ?_;rintro e w2 ⟨rfl,hb2⟩;have HB2:=hid (HT.out.trans ((HC.out.trans (hb2.mono HC.out.size)).mono HT.out.size));clear hb2 c0 c1 b0 b1 d0 d1 e0 e1;go_wp2_with fail;go_roundw
       case rel=>exact⟨k+1,hk,by go_num,HB2.out⟩
       case measure=>simp[intOf];omega
     · obtain rfl:M=k:=by omega
       have HT:=hid (HBB.out.trans (hT.mono HBB.out.size));clear hT;go_wp2_with fail;go_roundw
       case rel=>exact⟨i+1,hlt,by go_num,HT.out⟩
       case measure=>simp[intOf];omega
  · obtain rfl:N=i:=by omega
    go_wp2_with fail;go_ret;exact⟨rfl,hR⟩
theorem z1q (t e:TypeId) (k n:Nat) (parts:Array (Nat × Value)) (cells:Array Value) (hs:(Tryz.prog.info? e).isSome=true) (hz:((Tryz.prog.info? e).get hs).zero.isSome=true) (hn:((Tryz.prog.info? e).get hs).size=n) (hk:0<k∧k≤4) (hn0:0<n∧n≤100) (hu:Tryz.prog.underlying t=some (.slice e))
 (hf:Instr.fill (fun i=>some (i*n,n)) ((Array.range (k*n)).map ((((Tryz.prog.info? e).get hs).zero.get hz).cells[· % (((Tryz.prog.info? e).get hs).zero.get hz).cells.size]!)) parts.toList=some cells) (w:World) :
 (bls t k parts).run Tryz.prog w = .ok (.slice (some ⟨w.heap.size,0,none⟩) k k) (w.alloc (.cells cells e)):=by
 unfold bls
 have h1:¬ k*n > 2 ^ 24:=by
  have:k*n≤4*100:=Nat.mul_le_mul hk.2 hn0.2;omega
 have h2:¬ k*n=0:=by
  have:1*1≤k*n:=Nat.mul_le_mul hk.1 hn0.1;omega
 exact run_buildSlice w t e k parts cells ((Tryz.prog.info? e).get hs) (((Tryz.prog.info? e).get hs).zero.get hz) hu (Option.some_get hs).symm (Option.some_get hz).symm (by rw[hn];exact h1) (by rw[hn];exact h2) (by rw[hn];exact hf)
theorem Qx (a b:Int) (w:World):(bls 25 2 #[(0,.int .i64 a),(1,.int .i64 b)]).run Tryz.prog w = .ok (.slice (some ⟨w.heap.size,0,none⟩) 2 2) (w.alloc (.cells #[.int .i64 a,.int .i64 b] 3)):=z1q 25 3 2 1 _ #[.int .i64 a,.int .i64 b] (by kernel_rfl) (by kernel_rfl) (by kernel_rfl) (by omega) (by omega) (by kernel_rfl) (by kernel_rfl) w
theorem z1x (b:Nat) (x y:Int) (T:TypeId) (fr:Nat × Nat) (w:World) (h:w.heap[b]? = some (.cells #[.int .i64 x,.int .i64 y] T fr)) :
 Calls Tryz.prog 4 #[.slice (some ⟨b,0,none⟩) 2 2] w fun e w'=>(e = .returned (.bool true)∨(e = .returned (.bool false)∧(0≤x∧x≤262144)∧(0≤y∧y≤262144)))∧w=w':=by
 obtain⟨c0,c1⟩:=zt h;have hb:=z8 h;clear h;have hor:x<0∨(¬ x<0∧262144<x)∨(0≤x∧x≤262144∧y<0)∨(0≤x∧x≤262144 ∧ ¬ y<0∧262144<y)∨(0≤x∧x≤262144∧0≤y∧y≤262144∧262144<x+y)∨(0≤x∧x≤262144∧0≤y∧y≤262144∧x+y≤262144):=by omega
 rcases hor with h1|⟨h1,h2⟩|⟨h1,h2,h3⟩|⟨h1,h2,h3,h4⟩|⟨h1,h2,h3,h4,h5⟩|⟨h1,h2,h3,h4,h5⟩
 all_goals
  try have hx1:¬ x<0:=by omega
  try have hx2:¬ 262144<x:=by omega
  try have hy1:¬ y<0:=by omega
  try have hy2:¬ 262144<y:=by omega
  go_enter Tryz.func4,Tryz.ntmps4;go_wp2_with fail;refine wp_loop_rounds 3 ?_;rw[rounds_succ];go_wp2_with fail
  repeat (rw[rounds_succ];go_wp2_with fail)
  go_ret
  first|exact⟨.inl rfl,rfl⟩|exact⟨.inr ⟨rfl,by omega,by omega⟩,rfl⟩
theorem WI (l:List Int) (qa qb:Option Addr) (ca cb:Nat) (f:Int) (w:World) (h1:Rd w (.slice qa l.length ca) l) (h2:Rd w (.slice qb l.length cb) l) :
 Calls Tryz.prog 123 #[.agg #[.slice qa l.length ca,.int .u8 f],.agg #[.slice qb l.length cb,.int .u8 f]] w fun e w'=>e = .returned (.bool true)∧Below w.heap.size w w':=by
 obtain⟨N,hN⟩:∃ N,N=l.length:=⟨_,rfl⟩
 obtain⟨W2,hW2⟩:∃ W2,W2=(w.alloc (.cells #[.slice qa N ca,.int .u8 f] 108)).alloc (.cells #[.slice qb N cb,.int .u8 f] 108):=⟨_,rfl⟩
 have z1:(w.alloc (.cells #[.slice qa N ca,.int .u8 f] 108)).heap.size=w.heap.size+1:=by simp
 have hb2:Below w.heap.size w W2:=by rw[hW2];exact (ze w _).alloc (by simp) _
 have hX:W2.heap[w.heap.size]? = some (.cells #[.slice qa N ca,.int .u8 f] 108 (0,0)):=by rw[hW2,Below.heap_alloc _ _ _ (by omega)];exact (MapKept.heap_alloc _ _).1
 have hY:W2.heap[w.heap.size+1]? = some (.cells #[.slice qb N cb,.int .u8 f] 108 (0,0)):=by rw[hW2,←z1];exact (MapKept.heap_alloc _ _).1
 have HSW:=hid (kU l _ _ W2 (h1.below hb2) (h2.below hb2));rw[←hN]at HSW ⊢;obtain⟨x0,x1⟩:=zt hX;obtain⟨y0,y1⟩:=zt hY;rw[hW2]at x0 x1 y0 y1;have HW2:=hid hW2;have HB2:=hid hb2;clear h1 h2 hN hW2 hb2 hX hY z1;go_enter Tryz.func123,Tryz.ntmps123;go_wp2_with fail;rw[←HW2.out];refine HSW.out.mono ?_;rintro e w3 ⟨rfl,hb3⟩;have HB3:=hid hb3;clear hb3 x0 x1 y0 y1;go_wp2_with fail;go_ret;exact⟨rfl,HB2.out.trans (HB3.out.mono HB2.out.size)⟩
theorem WH (Ts:List TS) (sa sb:Value) (w:World) (h1:xB w sa Ts) (h2:xB w sb Ts) (hl:Ts.length≤1000000) :
 Calls Tryz.prog 28 #[sa,sb] w fun e w'=>e = .returned (.bool true)∧Below w.heap.size w w':=by
 obtain⟨qa,ca,rfl,hra⟩:=h1.read;obtain⟨qb,cb,rfl,hrb⟩:=h2.read;have HRA:=hid hra;have HRB:=hid hrb;obtain⟨N,hN⟩:∃ N,N=Ts.length:=⟨_,rfl⟩
 rw[←hN]at HRA HRB hl ⊢;have HN:=hid hN;clear h1 h2 hra hrb hN;go_enter Tryz.func28,Tryz.ntmps28;go_wp2_with fail
 go_loopw [13] (fun q wr=>∃ k:Nat,k≤N∧q = .int .i64 (k:Int)∧Below w.heap.size w wr) (fun q _=>N - (intOf q).toNat)
 case atStart=>exact⟨0,by omega,rfl,Below.refl _ _⟩
 case round =>
  obtain⟨k,hkN,rfl,hB⟩:=hrel
  by_cases hlt:k<N
  · obtain⟨T,hT⟩:∃ T,Ts[k]? = some T:=⟨_,List.getElem?_eq_getElem (by rw[←HN.out];exact hlt)⟩
    obtain⟨ga,rfl,hga,hra⟩:=HRA.out (by omega);obtain⟨gb,rfl,hgb,hrb⟩:=HRB.out (by omega);obtain⟨tqa,tca,p0,p1,hrd1⟩:=hra k T hT;obtain⟨tqb,tcb,r0,r1,hrd2⟩:=hrb k T hT;have p0:=(hB.cell (p:=⟨ga,k*2,none⟩) hga).trans p0;have p1:=(hB.cell (p:=⟨ga,k*2+1,none⟩) hga).trans p1;have r0:=(hB.cell (p:=⟨gb,k*2,none⟩) hgb).trans r0;have r1:=(hB.cell (p:=⟨gb,k*2+1,none⟩) hgb).trans r1;have HSS:=hid (fun (u:World) (hu:Below wr.heap.size wr u)=>WI T.told tqa tqb tca tcb T.fin u ((hrd1.below hB).below hu) ((hrd2.below hB).below hu));have hsz:=hB.size;have hga2:ga<wr.heap.size:=by omega
    have hgb2:gb<wr.heap.size:=by omega
    obtain⟨ln,hln⟩:∃ n,n=T.told.length:=⟨_,rfl⟩
    obtain⟨f,hf⟩:∃ n,n=T.fin:=⟨_,rfl⟩
    rw[←hln,←hf]at HSS;rw[←hln]at p0 r0;rw[←hf]at p1 r1;have HB:=hid hB;clear hT hra hrb hrd1 hrd2 hln hf hB;go_wp2_with fail;refine wp_region_held_drew (S:=zn (fun x=>x=ga∨x=gb) wr) (by kernel_rfl) (zn.drew _ _) (fun hSw=>?_);refine tH 0 (.slice (some ⟨ga,0,none⟩) N ca) hSw ?_;(try simp only[nS]);refine tH 1 (.int .i64 (k:Int)) hSw ?_;(try simp only[nS]);refine tH 2 (.pointer (some ⟨ga,k*2,none⟩)) hSw ?_;(try simp only[nS]);refine tG 3 (.agg #[.slice tqa ln tca,.int .u8 f]) hSw (fun W hW=>?_) ?_
    · have p0:=hW.cell (by dsimp only;omega) p0
      have p1:=hW.cell (by dsimp only;omega) p1
      first|(go_simp;done)|rfl
    (try simp only[nS]);refine tH 4 (.slice (some ⟨gb,0,none⟩) N cb) hSw ?_;(try simp only[nS]);refine tH 5 (.int .i64 (k:Int)) hSw ?_;(try simp only[nS]);refine tH 6 (.pointer (some ⟨gb,k*2,none⟩)) hSw ?_;(try simp only[nS]);refine tG 7 (.agg #[.slice tqb ln tcb,.int .u8 f]) hSw (fun W hW=>?_) ?_
    · have r0:=hW.cell (by dsimp only;omega) r0
      have r1:=hW.cell (by dsimp only;omega) r1
      first|(go_simp;done)|rfl
    (try simp only[nS]);refine tR 8 (fun K hK=>?_);clear hSw;go_simp;refine (HSS.out _ (below_drewN' (Below.refl _ _))).mono ?_;rintro e w9 ⟨rfl,hb9⟩;have hb9':Below wr.heap.size wr w9:=⟨hb9.os,hb9.tape,hb9.output,hb9.size,hb9.block⟩
    have HB9:=hid hb9';clear hb9 hb9';refine hK.out _ _ (fun x hx=>HB9.out.block x (by omega)) (fun hSw=>?_);clear hK K;(try simp only[nS]);refine tH 9 (.bool false) hSw ?_;(try simp only[nS]);refine wpAnyH_done (by kernel_rfl) ?_ _;clear p0 p1 r0 r1;go_wp2_with fail;go_roundw
    case rel=>exact⟨k+1,hlt,by go_num,HB.out.trans (HB9.out.mono HB.out.size)⟩
    case measure=>simp[intOf];omega
  · have HB:=hid hB
    clear hB;go_wp2_with fail;go_ret;exact⟨rfl,HB.out⟩
end
open Go.RowKit
theorem VH {H:Type} {enc:TypeId × Value→H} {w:World} (n:Nat) (v:Value) (y:DataW H × List MemPlace) (h:DataW.trod enc Tryz.prog w 0 (fun _=>true) true n 25 [v]=some y) (hw:Wt 25 y.1):∃ l:List Int,jh w w.heap.size v l:=by
 obtain⟨l,h1,h2⟩:=open_list (cells:=xh) (kc:=1) (Q:=fun x=>-9223372036854775808≤x∧x≤9223372036854775807) (0:Int) Tryz.underlying25 (by kernel_rfl) (of_decide_eq_true (by kernel_rfl)) (by omega) (fun a=>rfl) h hw
  (fun k _ cs y hy _=>by
   have hlen:cs.length=1:=by
    cases k with
    | zero=>cases hy
    | succ k =>
     unfold DataW.trod at hy;rw[Tryz.underlying3]at hy
     match cs with
     | []=>simp at hy
     | [u]=>rfl
     | a :: b :: r=>cases a <;> simp at hy
   match cs,hlen with
   | [u],_ =>
    obtain⟨i,rfl,hi⟩:=wT Tryz.underlying3 hy;exact⟨i,rfl,wf_i64 hi⟩)
 refine⟨l,h1,h2, ?_⟩;rcases DataW.trod_slice Tryz.underlying25 h with ⟨hv,-⟩|⟨a,len,cap,els,rest,m,-,hv,-⟩
 · simp only[List.cons.injEq,and_true]at hv
   exact .inl hv
 · simp only[List.cons.injEq,and_true]at hv
   exact .inr ⟨a,len,cap,hv⟩
