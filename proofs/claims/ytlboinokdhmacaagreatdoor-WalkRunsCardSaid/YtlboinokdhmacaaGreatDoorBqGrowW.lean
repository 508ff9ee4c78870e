import Derived.Test.YtlboinokdhmacaaGreatDoorBqLookW
namespace Go.Proofs.YtlboinokdhmacaaGreatDoor
set_option maxHeartbeats 64000000
set_option maxRecDepth 1000000
open Lib(hid)
section
open Go.RowKit
attribute [local go_sem ↓] zL zJ
theorem infoW:(Tryz.prog.info? 133).map (fun i=>(i.zero,i.size,i.bytes))=some (some (.agg #[.slice none 0 0,.int .i64 0]),2,32):=by kernel_rfl
theorem Qz (q:Option Addr) (l cp n:Nat) (w:World):(bls 39 1 #[(0,.agg #[.slice q l cp,.int .i64 (n:Int)])]).run Tryz.prog w = .ok (.slice (some ⟨w.heap.size,0,none⟩) 1 1) (w.alloc (.cells #[.slice q l cp,.int .i64 (n:Int)] 133)):=
 wP 39 133 1 2 #[(0,.agg #[.slice q l cp,.int .i64 (n:Int)])] #[.slice q l cp,.int .i64 (n:Int)] (by kernel_rfl) (by kernel_rfl) (by kernel_rfl) (by omega) (by omega) (by kernel_rfl) (by kernel_rfl) w
theorem K6 {ow:Nat→Nat} {w:World} {K cnt:Nat} {vW vS:Value} {hW hS:List (Value × Nat)} {c:Nat→List Int} {d:Nat→List (Value × Int)} (h:BQ ow w K cnt vW vS hW c hS d) (hc:cnt≤1000) (hn:hW.length≤1000) (q:Option Addr) (l cp:Nat) (ht:zI ow w (10+2*hW.length) (.slice q l cp) (c hW.length)) :
 Calls Tryz.prog 29 #[.pointer (some ⟨K,0,none⟩),.slice q l cp] w fun e w'=>e = .returned (.tuple #[])∧∃ ow' vX',Ext ow ow' w∧But ow [1,2] w w'∧BQ ow' w' K (cnt+1) vX' vS (hW++[(.slice q l cp,cnt)]) c hS d:=by
 obtain⟨qX,cX,eX,-⟩:=wG h.rowW;subst eX;have k3:w.cell? ⟨K,3,none⟩ = some (.slice qX hW.length cX):=zh h.box 3 _ rfl;have k0:w.cell? ⟨K,0,none⟩ = some (.int .i64 (cnt:Int)):=zh h.box 0 _ rfl;have hK:=z8 h.box;obtain⟨V,hV⟩:∃ V,V=w.drew:=⟨_,rfl⟩
 have hVb:Below w.heap.size w V:=by rw[hV];exact⟨rfl,rfl,rfl,Nat.le_refl _,fun _ _=>rfl⟩
 have hVz:V.heap.size=w.heap.size:=by rw[hV];rfl
 obtain⟨U,hU⟩:∃ U,U=V.alloc (.cells #[.slice q l cp,.int .i64 (cnt:Int)] 133):=⟨_,rfl⟩
 have hUb:Below w.heap.size w U:=hVb.trans (by rw[hU,←hVz];exact ze V _);have hU1:U.heap[V.heap.size]? = some (.cells #[.slice q l cp,.int .i64 (cnt:Int)] 133 (0,0)):=by rw[hU];exact (MapKept.heap_alloc V _).1
 have hUB:=h.below hUb;obtain⟨i0,hi,hz,hs,hb⟩:=info_parts infoW
 obtain⟨gq,cap,w8,hrun,hown,ow',hext,hlab,hbut⟩:=kZ (ty:=39) (lab:=2) (T:=39) Tryz.underlying39 hi hz hs hb rfl (by omega) hUB.rowW hUB.labW ⟨V.heap.size,0,none⟩ 1 (news:=[.slice q l cp,.int .i64 (cnt:Int)]) rfl
  (World.news_of_block hU1) (by intro u hu;simp at hu;rcases hu with rfl|rfl <;> rfl) (by omega) (by omega)
 rw[hU]at hrun;obtain⟨N,hN⟩:∃ N,N=hW.length:=⟨_,rfl⟩
 rw[←hN]at hrun k3;have heW:Ext ow ow' w:=fun k hk=>hext k (Nat.lt_of_lt_of_le hk hUb.size)
 have hbW:But ow [2] w w8:=zw (zi (l:=[]) (But.of hUb) (by simp)) hbut;have hx8:=(hbW.block K hK (by rw[h.lab];simp)).trans h.box;have q0:w8.cell? ⟨K,0,none⟩ = some (.int .i64 (cnt:Int)):=zh hx8 0 _ rfl;have q3:w8.cell? ⟨K,3,none⟩ = some (.slice qX hW.length cX):=zh hx8 3 _ rfl;have f0:=Lib.frozen_of_heap hx8 0;have f3:=Lib.frozen_of_heap hx8 3;have hl8:=z8 hx8;rw[←hN]at q3;have hend:=h.addW heW hbW hown (fun k hk=>by cases hk;exact hlab) ht;rw[←hN]at hend;have HEND:=hid hend;have HRUN:=hid hrun;have HEW:=hid heW;have HS1:=hid (show ∀ x,x=K→(V.alloc (.cells #[.slice q l cp,.int .i64 (cnt:Int)] 133)).heap[x]? = w.heap[x]? from fun x hx=>by rw[←hU];exact hUb.block x (by rw[hx];exact hK));have HS2:=hid (show ∀ x,x=K→w8.heap[x]? = w.heap[x]? from fun x hx=>hbW.block x (by rw[hx];exact hK) (by rw[hx,h.lab];simp));have HV:=hid hV;have e1:=zH 133 #[(0,.slice q l cp),(1,.int .i64 (cnt:Int))] #[.slice q l cp,.int .i64 (cnt:Int)] (by kernel_rfl);have e2:=Qz;have hw:IntKind.i64.wrap ((cnt:Int)+1)=((cnt+1:Nat):Int):=by rw[show ((cnt+1:Nat):Int)=(cnt:Int)+1 by omega];exact IntWalk.i64_in _ (by omega)
 clear h ht hVb hVz hU hUb hU1 hUB hi hz hs hb hrun hown hext hlab hbut hN heW hbW hx8 hend hV;go_enter Tryz.func29,Tryz.ntmps29;go_wp2_with fail;refine yO (S:=zn (fun x=>x=K) w) (fun j=>decide (13≤j)) (by kernel_rfl) (zn.drew _ _) (fun hSw=>?_);rw[←HV.out];rw[←HV.out]at hSw;refine lH 0 (.pointer (some ⟨K,0,none⟩)) hSw ?_;(try simp only[nS]);refine lH 1 (.pointer (some ⟨K,0,none⟩)) hSw ?_;(try simp only[nS]);refine lH 2 (.pointer (some ⟨K,0,none⟩)) hSw ?_;(try simp only[nS]);refine lH 3 (.pointer (some ⟨K,0+3,none⟩)) hSw ?_;(try simp only[nS]);refine lG 4 (.slice qX N cX) hSw (fun W hW=>?_) ?_
 · have k3:=hW.cell (by first|rfl|omega|(dsimp only;omega)) k3
   first|(go_simp;done)|rfl
 (try simp only[nS]);refine lH 5 (.slice q l cp) hSw ?_;(try simp only[nS]);refine lH 6 (.pointer (some ⟨K,0,none⟩)) hSw ?_;(try simp only[nS]);refine lH 7 (.pointer (some ⟨K,0,none⟩)) hSw ?_;(try simp only[nS]);refine lH 8 (.pointer (some ⟨K,0,none⟩)) hSw ?_;(try simp only[nS]);refine lG 9 (.int .i64 (cnt:Int)) hSw (fun W hW=>?_) ?_
 · have k0:=hW.cell (by first|rfl|omega|(dsimp only;omega)) k0
   first|(go_simp;done)|rfl
 (try simp only[nS]);refine lH 10 (.agg #[.slice q l cp,.int .i64 (cnt:Int)]) hSw ?_;(try simp only[nS]);refine lR 11 (fun J hK=>?_);clear hSw;go_simp;refine hK.out _ _ (fun x hx=>HS1.out x hx) (fun hSw=>?_);clear hK J;(try simp only[nS]);refine lR 12 (fun J hK=>?_);clear hSw;refine Lib.wp_append_run _ _ _ _ _ rfl _ _ rfl rfl _ _ HRUN.out ?_;refine hK.out _ _ (fun x hx=>HS2.out x hx) (fun hSw=>?_);clear hK J;(try simp only[nS]);refine yP (rs:=[13]) (by kernel_rfl) (by simp) (by rfl) ?_;refine oR 13 (fun J hK=>?_);go_simp;refine hK.out _ _ ?_;clear hK J;(try simp only[nS]);refine oR 14 (fun J hK=>?_);go_simp;refine hK.out _ _ ?_;clear hK J;(try simp only[nS]);refine oR 15 (fun J hK=>?_);go_simp;refine hK.out _ _ ?_;clear hK J;(try simp only[nS]);refine wpAny_done (by kernel_rfl) ?_ _;go_wp2_with fail
 go_end0
 exact⟨rfl,ow',_,HEW.out,HEND.out.2,HEND.out.1⟩
theorem infoS:(Tryz.prog.info? 135).map (fun i=>(i.zero,i.size,i.bytes))=some (some (.agg #[.slice none 0 0,.int .i64 0]),2,32):=by kernel_rfl
theorem QA (q:Option Addr) (l cp n:Nat) (w:World):(bls 51 1 #[(0,.agg #[.slice q l cp,.int .i64 (n:Int)])]).run Tryz.prog w = .ok (.slice (some ⟨w.heap.size,0,none⟩) 1 1) (w.alloc (.cells #[.slice q l cp,.int .i64 (n:Int)] 135)):=
 wP 51 135 1 2 #[(0,.agg #[.slice q l cp,.int .i64 (n:Int)])] #[.slice q l cp,.int .i64 (n:Int)] (by kernel_rfl) (by kernel_rfl) (by kernel_rfl) (by omega) (by omega) (by kernel_rfl) (by kernel_rfl) w
theorem K7 {ow:Nat→Nat} {w:World} {K cnt:Nat} {vW vS:Value} {hW hS:List (Value × Nat)} {c:Nat→List Int} {d:Nat→List (Value × Int)} (h:BQ ow w K cnt vW vS hW c hS d) (hc:cnt≤1000) (hn:hS.length≤1000) (q:Option Addr) (l cp:Nat) (ht:w.ownsRow 0 108 2 (.slice q l cp) (d hS.length).length (yg (d hS.length))∧∀ k,(Value.slice q l cp).ownBlock=some k→ow k=11+2*hS.length) :
 Calls Tryz.prog 30 #[.pointer (some ⟨K,0,none⟩),.slice q l cp] w fun e w'=>e = .returned (.tuple #[])∧∃ ow' vX',Ext ow ow' w∧But ow [1,3] w w'∧BQ ow' w' K (cnt+1) vW vX' hW c (hS++[(.slice q l cp,cnt)]) d:=by
 obtain⟨qX,cX,eX,-⟩:=wG h.rowS;subst eX;have k3:w.cell? ⟨K,15,none⟩ = some (.slice qX hS.length cX):=zh h.box 15 _ rfl;have k0:w.cell? ⟨K,0,none⟩ = some (.int .i64 (cnt:Int)):=zh h.box 0 _ rfl;have hK:=z8 h.box;obtain⟨V,hV⟩:∃ V,V=w.drew:=⟨_,rfl⟩
 have hVb:Below w.heap.size w V:=by rw[hV];exact⟨rfl,rfl,rfl,Nat.le_refl _,fun _ _=>rfl⟩
 have hVz:V.heap.size=w.heap.size:=by rw[hV];rfl
 obtain⟨U,hU⟩:∃ U,U=V.alloc (.cells #[.slice q l cp,.int .i64 (cnt:Int)] 135):=⟨_,rfl⟩
 have hUb:Below w.heap.size w U:=hVb.trans (by rw[hU,←hVz];exact ze V _);have hU1:U.heap[V.heap.size]? = some (.cells #[.slice q l cp,.int .i64 (cnt:Int)] 135 (0,0)):=by rw[hU];exact (MapKept.heap_alloc V _).1
 have hUB:=h.below hUb;obtain⟨i0,hi,hz,hs,hb⟩:=info_parts infoS
 obtain⟨gq,cap,w8,hrun,hown,ow',hext,hlab,hbut⟩:=kZ (ty:=51) (lab:=3) (T:=51) Tryz.underlying51 hi hz hs hb rfl (by omega) hUB.rowS hUB.labS ⟨V.heap.size,0,none⟩ 1 (news:=[.slice q l cp,.int .i64 (cnt:Int)]) rfl
  (World.news_of_block hU1) (by intro u hu;simp at hu;rcases hu with rfl|rfl <;> rfl) (by omega) (by omega)
 rw[hU]at hrun;obtain⟨N,hN⟩:∃ N,N=hS.length:=⟨_,rfl⟩
 rw[←hN]at hrun k3;have heW:Ext ow ow' w:=fun k hk=>hext k (Nat.lt_of_lt_of_le hk hUb.size)
 have hbW:But ow [3] w w8:=zw (zi (l:=[]) (But.of hUb) (by simp)) hbut;have hx8:=(hbW.block K hK (by rw[h.lab];simp)).trans h.box;have q0:w8.cell? ⟨K,0,none⟩ = some (.int .i64 (cnt:Int)):=zh hx8 0 _ rfl;have q3:w8.cell? ⟨K,15,none⟩ = some (.slice qX hS.length cX):=zh hx8 15 _ rfl;have f0:=Lib.frozen_of_heap hx8 0;have f3:=Lib.frozen_of_heap hx8 15;have hl8:=z8 hx8;rw[←hN]at q3;have hend:=h.addS heW hbW hown (fun k hk=>by cases hk;exact hlab) ht;rw[←hN]at hend;have HEND:=hid hend;have HRUN:=hid hrun;have HEW:=hid heW;have HS1:=hid (show ∀ x,x=K→(V.alloc (.cells #[.slice q l cp,.int .i64 (cnt:Int)] 135)).heap[x]? = w.heap[x]? from fun x hx=>by rw[←hU];exact hUb.block x (by rw[hx];exact hK));have HS2:=hid (show ∀ x,x=K→w8.heap[x]? = w.heap[x]? from fun x hx=>hbW.block x (by rw[hx];exact hK) (by rw[hx,h.lab];simp));have HV:=hid hV;have e1:=zH 135 #[(0,.slice q l cp),(1,.int .i64 (cnt:Int))] #[.slice q l cp,.int .i64 (cnt:Int)] (by kernel_rfl);have e2:=QA;have hw:IntKind.i64.wrap ((cnt:Int)+1)=((cnt+1:Nat):Int):=by rw[show ((cnt+1:Nat):Int)=(cnt:Int)+1 by omega];exact IntWalk.i64_in _ (by omega)
 clear h ht hVb hVz hU hUb hU1 hUB hi hz hs hb hrun hown hext hlab hbut hN heW hbW hx8 hend hV;go_enter Tryz.func30,Tryz.ntmps30;go_wp2_with fail;refine yO (S:=zn (fun x=>x=K) w) (fun j=>decide (13≤j)) (by kernel_rfl) (zn.drew _ _) (fun hSw=>?_);rw[←HV.out];rw[←HV.out]at hSw;refine lH 0 (.pointer (some ⟨K,0,none⟩)) hSw ?_;(try simp only[nS]);refine lH 1 (.pointer (some ⟨K,0,none⟩)) hSw ?_;(try simp only[nS]);refine lH 2 (.pointer (some ⟨K,0,none⟩)) hSw ?_;(try simp only[nS]);refine lH 3 (.pointer (some ⟨K,0+15,none⟩)) hSw ?_;(try simp only[nS]);refine lG 4 (.slice qX N cX) hSw (fun W hW=>?_) ?_
 · have k3:=hW.cell (by first|rfl|omega|(dsimp only;omega)) k3
   first|(go_simp;done)|rfl
 (try simp only[nS]);refine lH 5 (.slice q l cp) hSw ?_;(try simp only[nS]);refine lH 6 (.pointer (some ⟨K,0,none⟩)) hSw ?_;(try simp only[nS]);refine lH 7 (.pointer (some ⟨K,0,none⟩)) hSw ?_;(try simp only[nS]);refine lH 8 (.pointer (some ⟨K,0,none⟩)) hSw ?_;(try simp only[nS]);refine lG 9 (.int .i64 (cnt:Int)) hSw (fun W hW=>?_) ?_
 · have k0:=hW.cell (by first|rfl|omega|(dsimp only;omega)) k0
   first|(go_simp;done)|rfl
 (try simp only[nS]);refine lH 10 (.agg #[.slice q l cp,.int .i64 (cnt:Int)]) hSw ?_;(try simp only[nS]);refine lR 11 (fun J hK=>?_);clear hSw;go_simp;refine hK.out _ _ (fun x hx=>HS1.out x hx) (fun hSw=>?_);clear hK J;(try simp only[nS]);refine lR 12 (fun J hK=>?_);clear hSw;refine Lib.wp_append_run _ _ _ _ _ rfl _ _ rfl rfl _ _ HRUN.out ?_;refine hK.out _ _ (fun x hx=>HS2.out x hx) (fun hSw=>?_);clear hK J;(try simp only[nS]);refine yP (rs:=[13]) (by kernel_rfl) (by simp) (by rfl) ?_;refine oR 13 (fun J hK=>?_);go_simp;refine hK.out _ _ ?_;clear hK J;(try simp only[nS]);refine oR 14 (fun J hK=>?_);go_simp;refine hK.out _ _ ?_;clear hK J;(try simp only[nS]);refine oR 15 (fun J hK=>?_);go_simp;refine hK.out _ _ ?_;clear hK J;(try simp only[nS]);refine wpAny_done (by kernel_rfl) ?_ _;go_wp2_with fail
 go_end0
 exact⟨rfl,ow',_,HEW.out,HEND.out.2,HEND.out.1⟩
def xD:Nat→List (Value × Int)→List (Value × Nat)
 | _,[]=>[]
 | n,x :: l=>(x.1,n) :: xD (n+1) l
theorem kC:∀ (l:List (Value × Int)) (n:Nat),(xD n l).length=l.length:=by
 intro l;induction l with
 | nil=>intro n;rfl
 | cons x l ih=>intro n;simp[xD,ih]
theorem Kz:∀ (l:List (Value × Int)) (n:Nat) (x:Value × Int),xD n (l++[x])=xD n l++[(x.1,n+l.length)]:=by
 intro l;induction l with
 | nil=>intro n x;rfl
 | cons y l ih=>intro n x;simp only[List.cons_append,xD,ih,List.length_cons];rw[show n+1+l.length=n+(l.length+1)by omega]
theorem YP {ow:Nat→Nat} {w:World} {K cnt:Nat} {vW vS:Value} {nW hS:List (Value × Nat)} {c:Nat→List Int} {d:Nat→List (Value × Int)} (h:BQ ow w K cnt vW vS nW c hS d) (hc:cnt≤500) (hn:nW.length≤500) (hm:hS.length≤500) (sv:Value) (L:List (Value × Int)) (hL:L.length≤400) (hd:d hS.length=L)
 (ho:w.ownsRow 0 108 2 sv L.length (yg L)) (hl:∀ k,sv.ownBlock=some k→ow k=11+2*hS.length) (ht:∀ (i:Nat) x,L[i]? = some x→zI ow w (10+2*(nW.length+i)) x.1 (c (nW.length+i))) :
 Calls Tryz.prog 11 #[.pointer (some ⟨K,0,none⟩),sv] w fun e w'=>e = .returned (.tuple #[])∧∃ ow' vW' vS',Ext ow ow' w∧But ow [1,2,3] w w'∧BQ ow' w' K (cnt+L.length+1) vW' vS' (nW++xD cnt L) c (hS++[(sv,cnt+L.length)]) d:=by
 obtain⟨q,cp,esv,hq⟩:=wG ho;subst esv;have HH:=hid h;have HO:=hid ho;have HL:=hid hl;have HT:=hid ht;have HD:=hid hd;obtain⟨N,hN⟩:∃ N,N=L.length:=⟨_,rfl⟩
 rw[←hN]at hL hq ⊢;have HN:=hid hN;have HQ:=hid hq;clear h ho hl ht hd hN hq;go_enter Tryz.func11,Tryz.ntmps11;go_wp2_with fail
 go_loopw [7] (fun iv wr=>∃ (k:Nat) (ow':Nat→Nat) (vW':Value),k≤N∧iv = .int .i64 (k:Int)∧Hid (Ext ow ow' w∧But ow [1,2] w wr∧BQ ow' wr K (cnt+k) vW' vS (nW++xD cnt (L.take k)) c hS d)) (fun iv _=>N - (intOf iv).toNat)
 case atStart=>exact⟨0,ow,vW,by omega,rfl,hid ⟨.refl _ _,But.of (Below.refl _ _),by simpa[xD]using HH.out⟩⟩
 case round =>
  obtain⟨k,ow1,vW1,hkN,rfl,hR⟩:=hrel
  by_cases hlt:k<N
  · have hkL:k<L.length:=by rw[←HN.out];exact hlt
    obtain⟨x,hx⟩:∃ x,L[k]? = some x:=⟨_,List.getElem?_eq_getElem hkL⟩
    obtain⟨g,rfl,hg⟩:=HQ.out (by omega);have hor:=zM HO.out hR.out.2.1 HL.out (by simp;omega);have hc0:=(hor.cellAt (k*2) (by omega)).trans (qP L k x hx).1;have hlen:(nW++xD cnt (L.take k)).length=nW.length+k:=by rw[List.length_append,kC,List.length_take];omega
    have htk:=(HT.out k x hx).keeps hR.out.2.1 hR.out.1 (by simp;omega);obtain⟨xq,xc,ex⟩:=(HT.out k x hx).form';rw[ex]at hc0 htk;have hke:=K6 hR.out.2.2 (by omega) (by rw[hlen];omega) xq (c (nW.length+k)).length xc (by rw[hlen];exact htk);have HKE:=hid hke;have hg1:g<wr.heap.size:=Nat.lt_of_lt_of_le hg hR.out.2.1.size
    have htake:L.take (k+1)=L.take k++[x]:=by
     rw[List.take_add_one,hx];rfl
    have hhel:(nW++xD cnt (L.take k))++[(.slice xq (c (nW.length+k)).length xc,cnt+k)]=nW++xD cnt (L.take (k+1)):=by
     rw[htake,Kz,List.append_assoc,ex,List.length_take,show min k L.length=k by omega]
    have HHE:=hid hhel;obtain⟨tl,htl⟩:∃ n,n=(c (nW.length+k)).length:=⟨_,rfl⟩
    rw[←htl]at hc0 HKE HHE;clear hkL hor hlen htk hke htake hhel htl hx;go_wp2_with fail;refine HKE.out.mono ?_;rintro e w2 ⟨rfl,ow2,vW2,p1,p2,p3⟩;rw[HHE.out]at p3
    have HF:=hid (show Ext ow ow2 w∧But ow [1,2] w w2∧BQ ow2 w2 K (cnt+(k+1)) vW2 vS (nW++xD cnt (L.take (k+1))) c hS d from
     ⟨Ext.to hR.out.1 p1 hR.out.2.1.size,vD hR.out.2.1 hR.out.1 p2,p3⟩)
    clear p1 p2 p3;go_wp2_with fail;go_roundw
    case rel=>exact⟨k+1,ow2,vW2,hlt,by go_num,HF⟩
    case measure=>simp[intOf];omega
  · obtain rfl:N=k:=by omega
    have hor:=zM HO.out hR.out.2.1 HL.out (by simp;omega);have hol:=yA HO.out hR.out.1 HL.out;have htk:L.take N=L:=by rw[HN.out];exact List.take_length
    have hB:=hR.out.2.2;rw[htk]at hB;rw[←HN.out]at hor hol;have hke:=K7 hB (by omega) (by omega) q N cp ⟨by rw[HD.out,←HN.out];exact hor,hol⟩;have HKE:=hid hke;clear hor hol htk hB hke;go_wp2_with fail;refine HKE.out.mono ?_;rintro e w2 ⟨rfl,ow2,vS2,p1,p2,p3⟩
    have HF:=hid (show Ext ow ow2 w∧But ow [1,2,3] w w2∧BQ ow2 w2 K (cnt+N+1) vW1 vS2 (nW++xD cnt L) c (hS++[(.slice q N cp,cnt+N)]) d from
     ⟨Ext.to hR.out.1 p1 hR.out.2.1.size,vD (zi hR.out.2.1 (by simp <;> omega)) hR.out.1 (zi p2 (by simp <;> omega)),p3⟩)
    clear p1 p2 p3;go_wp2_with fail
    go_end0
    exact⟨rfl,ow2,vW1,vS2,HF.out.1,HF.out.2.1,HF.out.2.2⟩
end
section
open Go.RowKit
theorem XX (ow:Nat→Nat) (w:World) (lab:Nat) (v:Value) (l:List Int) (x:Int) (ty:TypeId) (ga:Addr) (gc:Nat) (h:zI ow w lab v l) (hnews:∀ j u,[Value.int .i64 x][j]? = some u→w.cell? (ga.add j)=some u) (hl:l.length≤4194304) :
 ∃ v' w',(Builtin.append_ #[85,85] ty #[v,.slice (some ga) 1 gc]).run Tryz.prog w = .ok v' w'∧(∃ p c,v' = .slice p (l.length+1) c)∧∃ ow',Ext ow ow' w∧zI ow' w' lab v' (l++[x])∧But ow [lab] w w':=by
 obtain⟨i,hi,hz,hs,hb⟩:=info_parts jF;have ht:=Tryz.underlying85
 have fresh:∀ (cs:Array Value) (cap:Nat),l.length+1≤cap→cap≤maxLen→cs.size=cap→(∀ (k:Nat) y,(l++[x])[k]? = some y→cs[k]? = some (.int .i64 y)) →
  ∃ ow',Ext ow ow' w∧zI ow' (w.drew.alloc (.cells cs 2)) lab (.slice (some ⟨w.heap.size,0,none⟩) (l.length+1) cap) (l++[x])∧But ow [lab] w (w.drew.alloc (.cells cs 2)):=by
  intro cs cap h1 h2 h3 h4;refine⟨_,jI (l:=lab),.inr ⟨w.heap.size,0,cap,cs,by simp,heap_alloc_new w.drew _,by simp,by simpa using h1,h2,by omega,fun k y hy=>by rw[Nat.zero_add];exact h4 k y hy⟩,⟨rfl,rfl,rfl,by simp,fun k hk _=>Below.heap_alloc w.drew _ k hk⟩⟩
 rcases h with ⟨rfl,rfl⟩|⟨g,off,cap,cur,rfl,hg,hlab,hlc,hcm,hsz,hc⟩
 · have hr:=run_append_nil (P:=Tryz.prog) (w:=w) 85 ty 2 i (.int .i64 0) ht hi hz ga 1 gc [.int .i64 x] (by rw[hs];rfl) hnews (by decide) (by decide) (by rw[hb];decide)
   have hge:=grownCap_ge w 1 0 2;have hle:=grownCap_le_maxLen w 1 0 2 (by decide);refine⟨_,_,hr,⟨_,_,rfl⟩,fresh _ _ hge hle (by simp[Builtin.zeroCells,Value.cells];omega) fun k y hy=>?_⟩;cases k with
   | zero=>simp at hy;subst hy;first|rfl|(rw[Array.getElem?_append,if_pos (by simp)];rfl)
   | succ k=>simp at hy
 · have holds:∀ j u,(wds l)[j]? = some u→w.cell? ((⟨g,off,none⟩:Addr).add j)=some u:=fun j u hu=>by
    rw[wds,List.getElem?_map]at hu;obtain⟨y,hy,rfl⟩:=Option.map_eq_some_iff.1 hu;rw[Addr.add_mid,Lib.cell_of_heap hg];exact hc j y hy
   by_cases hroom:l.length+1≤cap
   · have hst:=run_storeCells_at Tryz.prog g (off+l.length) 2 [Value.int .i64 x] 0 cur w hg (by simp;omega) (by simp[Value.oneCell'])
     simp only[Nat.add_zero,List.length_singleton]at hst;have hlo:(Builtin.lenOf (.slice (some ga) 1 gc)).run Tryz.prog w = .ok 1 w:=rfl;have hfc:=run_firstCells_some (P:=Tryz.prog) w 1 1 ga 1 gc [.int .i64 x] rfl hnews
     have hr:(Builtin.append_ #[85,85] ty #[.slice (some ⟨g,off,none⟩) l.length cap,.slice (some ga) 1 gc]).run Tryz.prog w = .ok (.slice (some ⟨g,off,none⟩) (l.length+1) cap) (w.setRow g (cur.toList.take (off+l.length)++[Value.int .i64 x]++cur.toList.drop (off+l.length+1)).toArray):=by
      simp[Builtin.append_,run_underlying ht,sizeOf,typeInfo,hi,hs,Builtin.lenOf,hroom,hfc,Addr.add_mid];simp at hst;rw[hst]
      rfl
     have hcs:∀ k y,(l++[x])[k]? = some y→(cur.toList.take (off+l.length)++[Value.int .i64 x]++cur.toList.drop (off+l.length+1)).toArray[off+k]? = some (.int .i64 y):=by
      intro k y hy;simp only[List.getElem?_toArray];rw[List.append_assoc];have htl:(cur.toList.take (off+l.length)).length=off+l.length:=by simp;omega
      by_cases hk:k<l.length
      · rw[List.getElem?_append,if_pos hk]at hy
        rw[List.getElem?_append,if_pos (by omega),List.getElem?_take,if_pos (by omega)];have:=hc k y hy
        simpa using this
      · rw[List.getElem?_append,if_neg hk]at hy
        have hk0:k=l.length:=by
         rcases Nat.lt_or_ge (k - l.length) 1 with q|q
         · omega
         · rw[List.getElem?_eq_none (by simpa using q)]at hy;cases hy
        subst hk0;simp at hy;subst hy;rw[List.getElem?_append,if_neg (by omega),htl,Nat.sub_self]
        rfl
     refine⟨_,_,hr,⟨_,_,rfl⟩,ow,.refl _ _,.inr ⟨g,off,cap,_,by simp,setRow_heap w g cur _ _ _ hg,hlab,by simpa using hroom,hcm,by simp;omega,hcs⟩,⟨rfl,rfl,rfl,by simp,fun k _ hn=>setRow_other w g k _ (by rintro rfl;exact hn (by rw[hlab];simp))⟩⟩
   · have hg2:cap<l.length+1:=by omega
     have hr:=run_append_grow (P:=Tryz.prog) (w:=w) 85 ty 2 i (.int .i64 0) ht hi hz ⟨g,off,none⟩ l.length cap (wds l) (by rw[hs,xR,Nat.mul_one]) holds ga 1 gc [.int .i64 x] (by rw[hs];rfl) hnews hg2 (by omega) (by rw[hb];exact growslice_fits hg2 (by omega));have hge:=grownCap_ge w (l.length+1) cap 2;have hle:=grownCap_le_maxLen w (l.length+1) cap 2 (by unfold maxLen;omega);refine⟨_,_,hr,⟨_,_,rfl⟩,fresh _ _ hge hle (by simp[Builtin.zeroCells,Value.cells,xR];omega) fun k y hy=>?_⟩
     have hkl:k<l.length+1:=by
      rcases Nat.lt_or_ge k (l.length+1)with q|q
      · exact q
      · rw[List.getElem?_eq_none (by simpa using q)]at hy;cases hy
     rw[Array.getElem?_append,if_pos (by simp[xR];omega)];simp only[List.append_toArray,List.getElem?_toArray];have:wds l++[Value.int .i64 x]=wds (l++[x]):=by simp[wds]
     rw[this,wds,List.getElem?_map,hy];rfl
end
open Go.RowKit
attribute [local go_sem ↓] zL zJ
def xE {α:Type} (c:Nat→List α) (m:Nat→α) (i g:Nat):Nat→List α:=fun j=>if j<i then c j++List.replicate 3 (m j) else if j=i then c j++List.replicate g (m j) else c j
theorem KM {α:Type} (c:Nat→List α) (m:Nat→α):xE c m 0 0=c:=by
 funext j;unfold xE;rw[if_neg (by omega)];split <;> simp
theorem kD {α:Type} (c:Nat→List α) (m:Nat→α) (i g:Nat):xE c m i g i=c i++List.replicate g (m i):=by
 unfold xE;rw[if_neg (by omega),if_pos rfl]
theorem KN {α:Type} (c:Nat→List α) (m:Nat→α) (i g:Nat):cU (xE c m i g) i (xE c m i g i++[m i])=xE c m i (g+1):=by
 funext j;unfold cU
 by_cases h:j=i
 · subst h
   rw[if_pos rfl,kD,kD,List.append_assoc,←List.replicate_succ']
 · rw[if_neg h]
   unfold xE;rw[if_neg h,if_neg h]
theorem KO {α:Type} (c:Nat→List α) (m:Nat→α) (i:Nat):xE c m i 3=xE c m (i+1) 0:=by
 funext j;unfold xE
 by_cases h:j<i
 · rw[if_pos h,if_pos (by omega)]
 · rw[if_neg h]
   by_cases h2:j=i
   · rw[if_pos h2,if_pos (by omega)]
   · rw[if_neg h2,if_neg (by omega)]
     split <;> simp
theorem ZH (nW:List (Value × Nat)) (j:Nat):numOf nW j=((nW.map (·.2))[j]?).getD 0:=by unfold numOf;rw[List.getElem?_map]
theorem qR {nW nX:List (Value × Nat)} (h:nX.map (·.2)=nW.map (·.2)) (j:Nat):numOf nX j=numOf nW j:=by rw[ZH,ZH,h]
theorem Y0 {nW:List (Value × Nat)} {i:Nat} {x:Value × Nat} (hx:nW[i]? = some x) (v:Value):(nW.set i (v,x.2)).map (·.2)=nW.map (·.2):=by
 rw[List.map_set];obtain⟨hi,e⟩:=List.getElem?_eq_some_iff.1 hx;apply List.ext_getElem?;intro j;rw[List.getElem?_set]
 by_cases h:i=j
 · subst h
   rw[if_pos rfl,List.getElem?_map,hx];simp[hi]
 · rw[if_neg h]
theorem KP {ow:Nat→Nat} {w:World} {K cnt:Nat} {vW vS:Value} {nW nS:List (Value × Nat)} {c:Nat→List Int} {d:Nat→List (Value × Int)} (h:BQ ow w K cnt vW vS nW c nS d) (hn:nW.length≤1000) (hnum:∀ j,numOf nW j≤1000000) (hlen:∀ (i:Nat) x,nW[i]? = some x→(c i).length≤4000000) :
 Calls Tryz.prog 58 #[.pointer (some ⟨K,0,none⟩)] w fun e w'=>e = .returned (.tuple #[])∧Zq ow w w'∧∃ ow' nX,Ext ow ow' w∧nX.map (·.2)=nW.map (·.2)∧BQ ow' w' K cnt vW vS nX (xE c (mW nW) nW.length 0) nS d:=by
 obtain⟨qW,cW,eW,-⟩:=wG h.rowW;subst eW;have k3:w.cell? ⟨K,3,none⟩ = some (.slice qW nW.length cW):=zh h.box 3 _ rfl;have hK:=z8 h.box;have HH:=hid h;have HNUM:=hid hnum;have HLEN:=hid hlen;obtain⟨N,hN⟩:∃ N,N=nW.length:=⟨_,rfl⟩
 rw[←hN]at k3 hn ⊢;have HN:=hid hN;clear h hN hnum hlen;go_enter Tryz.func58,Tryz.ntmps58;go_wp2_with fail
 go_loopw [10] (fun iv wr=>∃ (i:Nat) (ow1:Nat→Nat) (nX:List (Value × Nat)),i≤N∧iv = .int .i64 (i:Int)∧Hid (Zq ow w wr∧Ext ow ow1 w∧nX.map (·.2)=nW.map (·.2)∧BQ ow1 wr K cnt (.slice qW N cW) vS nX (xE c (mW nW) i 0) nS d)) (fun iv _=>N - (intOf iv).toNat)
 case atStart=>exact⟨0,ow,nW,by omega,rfl,hid ⟨.refl _ _,.refl _ _,rfl,by rw[KM,HN.out];exact HH.out⟩⟩
 case round =>
  obtain⟨i,ow1,nX,hiN,rfl,hR⟩:=hrel
  by_cases hlt:i<N
  · obtain⟨x,hx⟩:∃ x,nX[i]? = some x:=⟨_,List.getElem?_eq_getElem (by have:=congrArg List.length hR.out.2.2.1;simp only[List.length_map]at this;rw[this,←HN.out];exact hlt)⟩
    obtain⟨x0,hx0⟩:∃ x,nW[i]? = some x:=⟨_,List.getElem?_eq_getElem (by rw[←HN.out];exact hlt)⟩
    have hM4:(c i).length≤4000000:=HLEN.out i _ hx0;have k3:wr.cell? ⟨K,3,none⟩ = some (.slice qW N cW):=zh hR.out.2.2.2.box 3 _ rfl;have hK:=z8 hR.out.2.2.2.box;obtain⟨gW,rfl,hgW,-,-,-,-⟩:=hR.out.2.2.2.atW hx;have HR:=hR;clear hR hx hx0;go_wp2_with fail
    go_loopw [4] (fun iv wr=>∃ (g:Nat) (ow1:Nat→Nat) (nX:List (Value × Nat)),g≤3∧iv = .int .i64 (g:Int)∧Hid (Zq ow w wr∧Ext ow ow1 w∧nX.map (·.2)=nW.map (·.2)∧BQ ow1 wr K cnt (.slice (some ⟨gW,0,none⟩) N cW) vS nX (xE c (mW nW) i g) nS d)) (fun iv _=>3 - (intOf iv).toNat)
    case atStart=>exact⟨0,ow1,nX,by omega,rfl,HR⟩
    case round =>
     obtain⟨g,ow2,nY,hg3,rfl,hT⟩:=hrel
     by_cases hg:g<3
     · have hBQ:=hT.out.2.2.2
       obtain⟨x,hx⟩:∃ x,nY[i]? = some x:=⟨_,List.getElem?_eq_getElem (by have:=congrArg List.length hT.out.2.2.1;simp only[List.length_map]at this;rw[this,←HN.out];exact hlt)⟩
       obtain⟨gW',e2,hgW1,hgWl,h0,h1,hf0⟩:=hBQ.atW hx;cases e2;obtain⟨V,hV⟩:∃ V,V=wr.drew:=⟨_,rfl⟩
       have hVb:Below wr.heap.size wr V:=by rw[hV];exact⟨rfl,rfl,rfl,Nat.le_refl _,fun _ _=>rfl⟩
       have hVz:V.heap.size=wr.heap.size:=by rw[hV];rfl
       obtain⟨n,hn2⟩:∃ n,n=x.2:=⟨_,rfl⟩
       have hnn:numOf nW i=n:=by rw[←qR hT.out.2.2.1 i,qU hx,hn2]
       have hn6:n≤1000000:=by rw[←hnn];exact HNUM.out i
       have hmk:mW nW i = -1000 - (n:Int):=by unfold mW;rw[hnn]
       obtain⟨U,hU⟩:∃ U,U=V.alloc (.cells #[.int .i64 (-1000 - (n:Int))] 2):=⟨_,rfl⟩
       have hUb:Below wr.heap.size wr U:=hVb.trans (by rw[hU,←hVz];exact ze V _);have hU1:U.heap[V.heap.size]? = some (.cells #[.int .i64 (-1000 - (n:Int))] 2 (0,0)):=by rw[hU];exact (MapKept.heap_alloc V _).1
       have htl:=(hBQ.below hUb).wide i x hx;obtain⟨xq,xc,ex⟩:=htl.form';rw[kD]at htl ex;have hll:(c i++List.replicate g (mW nW i)).length=(c i).length+g:=by simp
       obtain⟨v',w8,hrun,⟨q2,c2,ev⟩,ow3,hext,ht8,hbut⟩:=XX ow2 U (10+2*i) x.1 _ (-1000 - (n:Int)) 85 ⟨V.heap.size,0,none⟩ 1 htl (World.news_of_block hU1) (by rw[hll];omega);have heW:Ext ow2 ow3 wr:=fun k hk=>hext k (Nat.lt_of_lt_of_le hk hUb.size)
       have hbW:But ow2 [10+2*i] wr w8:=zw (zi (l:=[]) (But.of hUb) (by simp)) hbut;have hpush:=hBQ.pushW hx heW hbW ht8;rw[←hmk,←kD,KN]at hpush;have hmap:(nY.set i (v',x.2)).map (·.2)=nW.map (·.2):=(Y0 hx v').trans hT.out.2.2.1
       have HF:=hid (show Zq ow w (w8.setCell ⟨gW,i*2,none⟩ v')∧Ext ow ow3 w∧(nY.set i (v',x.2)).map (·.2)=nW.map (·.2)∧BQ ow3 (w8.setCell ⟨gW,i*2,none⟩ v') K cnt (.slice (some ⟨gW,0,none⟩) N cW) vS (nY.set i (v',x.2)) (xE c (mW nW) i (g+1)) nS d from
        ⟨hT.out.1.trans hT.out.2.1 hpush.2,Ext.to hT.out.2.1 heW hT.out.1.size,hmap,hpush.1⟩)
       have h8:w8.heap[gW]? = wr.heap[gW]?:=hbW.block gW hgW1 (by rw[hgWl];simp;omega);have q0:=(uH h8 (i*2)).trans h0;have qf:w8.frozen? ⟨gW,i*2,none⟩ = false:=by rw[←hf0];simp only[World.frozen?,h8]
       have hl8:gW<w8.heap.size:=Nat.lt_of_lt_of_le hgW1 hbW.size;have h1:wr.cell? ⟨gW,i*2+1,none⟩ = some (.int .i64 (n:Int)):=by rw[hn2];exact h1
       rw[ex]at h0 q0 hrun;obtain⟨M,hM⟩:∃ M,M=(c i++List.replicate g (mW nW i)).length:=⟨_,rfl⟩
       rw[←hM]at h0 q0 hrun ev;subst ev;rw[hU]at hrun;have HRUN:=hid hrun;have HMA:=hid (fun u=>uj n hn6 u);have HS1:=hid (show ∀ y,y=gW→(V.alloc (.cells #[.int .i64 (-1000 - (n:Int))] 2)).heap[y]? = wr.heap[y]? from fun y hy=>by rw[←hU];exact hUb.block y (by rw[hy];exact hgW1));have HS2:=hid (show ∀ y,y=gW→w8.heap[y]? = wr.heap[y]? from fun y hy=>by rw[hy];exact h8);have HV:=hid hV;have e3:=jA;clear hBQ hVb hVz hUb hU1 htl hll hrun hext ht8 hbut heW hbW hpush hmap h8 hnn hmk hn2 hT hU hV ex hf0 hM;go_wp2_with fail;refine yO (S:=zn (fun x=>x=gW) wr) (fun j=>decide (12≤j)) (by kernel_rfl) (zn.drew _ _) (fun hSw=>?_);rw[←HV.out];rw[←HV.out]at hSw;refine lH 0 (.pointer (some ⟨gW,i*2,none⟩)) hSw ?_;(try simp only[nS]);refine lH 1 (.pointer (some ⟨gW,i*2,none⟩)) hSw ?_;(try simp only[nS]);refine lH 2 (.pointer (some ⟨gW,i*2,none⟩)) hSw ?_;(try simp only[nS]);refine lH 3 (.pointer (some ⟨gW,i*2,none⟩)) hSw ?_;(try simp only[nS]);refine lG 4 (.slice xq M xc) hSw (fun W hW=>?_) ?_
       · have h0:=hW.cell (by first|rfl|omega|(dsimp only;omega)) h0
         first|(go_simp;done)|rfl
       (try simp only[nS]);refine lH 5 (.pointer (some ⟨gW,i*2,none⟩)) hSw ?_;(try simp only[nS]);refine lH 6 (.pointer (some ⟨gW,i*2,none⟩)) hSw ?_;(try simp only[nS]);refine lH 7 (.pointer (some ⟨gW,i*2+1,none⟩)) hSw ?_;(try simp only[nS]);refine lG 8 (.int .i64 (n:Int)) hSw (fun W hW=>?_) ?_
       · have h1:=hW.cell (by first|rfl|omega|(dsimp only;omega)) h1
         first|(go_simp;done)|rfl
       (try simp only[nS]);refine lR 9 (fun J hK=>?_);clear hSw;go_simp;refine (HMA.out _).mono ?_;rintro e w2 ⟨rfl,rfl⟩;refine hK.out _ _ (fun y hy=>by rw[HV.out];rfl) (fun hSw=>?_);clear hK J;(try simp only[nS]);refine lR 10 (fun J hK=>?_);clear hSw;go_simp;refine hK.out _ _ (fun y hy=>HS1.out y hy) (fun hSw=>?_);clear hK J;(try simp only[nS]);refine lR 11 (fun J hK=>?_);clear hSw;refine Lib.wp_append_run _ _ _ _ _ rfl _ _ rfl rfl _ _ HRUN.out ?_;refine hK.out _ _ (fun y hy=>HS2.out y hy) (fun hSw=>?_);clear hK J;(try simp only[nS]);refine yP (rs:=[12]) (by kernel_rfl) (by simp) (by rfl) ?_;refine oR 12 (fun J hK=>?_);go_simp;refine hK.out _ _ ?_;clear hK J;(try simp only[nS]);refine oR 13 (fun J hK=>?_);go_simp;refine hK.out _ _ ?_;clear hK J;(try simp only[nS]);refine oR 14 (fun J hK=>?_);go_simp;refine hK.out _ _ ?_;clear hK J;(try simp only[nS]);refine wpAny_done (by kernel_rfl) ?_ _;go_wp2_with fail;go_roundw
       case rel=>exact⟨g+1,ow3,_,hg,by go_num,HF⟩
       case measure=>simp[intOf];omega
     · obtain rfl:g=3:=by omega
       have HF:=hid (show Zq ow w wr∧Ext ow ow2 w∧nY.map (·.2)=nW.map (·.2)∧BQ ow2 wr K cnt (.slice (some ⟨gW,0,none⟩) N cW) vS nY (xE c (mW nW) (i+1) 0) nS d from by rw[←KO];exact hT.out);clear hT;go_wp2_with fail;go_roundw
       case rel=>exact⟨i+1,ow2,nY,hlt,by go_num,HF⟩
       case measure=>simp[intOf];omega
  · obtain rfl:N=i:=by omega
    go_wp2_with fail
    go_end0
    refine⟨rfl,hR.out.1, ?_⟩
    first|exact⟨ow1,nX,hR.out.2⟩|exact⟨ow1,hR.out.2.1,nX,hR.out.2.2⟩
