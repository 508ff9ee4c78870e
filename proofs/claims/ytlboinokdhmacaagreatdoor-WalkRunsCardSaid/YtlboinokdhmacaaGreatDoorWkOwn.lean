import Derived.Test.YtlboinokdhmacaaGreatDoorWkBegin
namespace Go.Proofs.YtlboinokdhmacaaGreatDoor
set_option maxHeartbeats 64000000
set_option maxRecDepth 1000000
open Lib(hid)
open Go.RowKit
attribute [local go_sem ↓] zL zJ
theorem Qs (ow:Nat→Nat) (w:World) (b j p n:Nat) (g:Gr) (W:WS) (T:TS) (v rs us ts ws:Value) (k o:Int) (a m:Nat) (bb cc:Int) (h1:WAt ow w b W n v) (h2:TAt ow w b j p g T rs us ts ws) (hl0:∀ k,w.heap.size≤k→ow k=0) (ha:a<T.regs.length) (hm:m≤64) (hok:UOk T.undo T.since W.words.length) (hu:T.undo.length≤1048576) :
 Calls Tryz.prog 183 #[.pointer (some ⟨p,0,none⟩),.agg #[.int .u8 k,.int .u8 o,.int .i64 (a:Int),.int .i64 bb,.int .i64 cc,.int .i64 (m:Int)]] w (zN ow b j p g n (if 65536<(W.words.length:Int) - 1+(m:Int) then yN W T 5 else ({ W with words:=W.words++List.replicate m 0 },T.setR (a:Int) (W.words.length:Int),false)) w):=by
 obtain⟨rg,er,hrg,hrl⟩:=h2.regs;have her:=er;obtain⟨U,hU⟩:∃ U,U=w.alloc (.cells #[.int .u8 k,.int .u8 o,.int .i64 (a:Int),.int .i64 bb,.int .i64 cc,.int .i64 (m:Int)] 159):=⟨_,rfl⟩
 have hBU:Below w.heap.size w U:=by rw[hU];exact ze w _
 have hzU:U.heap.size=w.heap.size+1:=by rw[hU];simp
 have hO:U.heap[w.heap.size]? = some (.cells #[.int .u8 k,.int .u8 o,.int .i64 (a:Int),.int .i64 bb,.int .i64 cc,.int .i64 (m:Int)] 159 (0,0)):=by rw[hU];exact (MapKept.heap_alloc _ _).1
 have h1U:=h1.keeps (But.of (ls:=[]) hBU) (.refl _ _) (by simp) (by simp);have h2U:=h2.keeps (But.of (ls:=[]) hBU) (.refl _ _) (by simp);have hlp:p<w.heap.size:=z8 h2.box;have hlb:b<w.heap.size:=z8 h1.box;have hlr:rg<w.heap.size:=z8 hrg;have hrgU:=(hBU.block rg hlr).trans hrg;obtain⟨d0,d3,d4,d5,d6,d7,d8,d9,d10,d11,d12⟩:=h2U.cells;obtain⟨e0,e1,e2⟩:=h1U.cells;rw[her]at d4;obtain⟨i0,i1,i2,i3,i4,i5⟩:=zl hO;have fr:=fun (q:Nat)=>Lib.frozen_of_heap hrgU q
 obtain⟨NR,hNR⟩:∃ N,N=T.regs.length:=⟨_,rfl⟩
 have hax:a<NR:=by rw[hNR];exact ha
 have HFA:=hid (fun (u:World) (hb:Below U.heap.size U u)=>jd ow u b j p n g W T v rs us ts ws 5 (h1U.keeps (But.of (ls:=[]) hb) (.refl _ _) (by simp) (by simp)) (h2U.keeps (But.of (ls:=[]) hb) (.refl _ _) (by simp)) hok hu);have hlabp:=h2.lab;have HL0:=hid (hl0 w.heap.size (Nat.le_refl _));have HRL:=hid hrl;have f0:=fr a;obtain⟨y,hy⟩:∃ y,T.regs[a]? = some y:=⟨_,List.getElem?_eq_getElem ha⟩
 have s0:=zT hrgU a y hy;have H1:=hid h1U;have H2:=hid h2U;have HB:=hid hBU;have HU:=hid hU;have HER:=hid her;rw[←hNR]at d4;have HNR:=hid hNR;clear d3 d5 d6 d7 d8 d9 d10 d11 d12 e0 e1 e2;clear h1 h2 h1U h2U hBU hO hrg hrgU hrl er her hU hNR ha fr hok hu hl0 hy
 by_cases hlt:65536<(W.words.length:Int) - 1+(m:Int)
 · rw[if_pos hlt]
   go_enter Tryz.func183,Tryz.ntmps183;go_wp2_with fail;rw[←HU.out];refine wp_region_held_drew (S:=zn (fun k=>k=p∨k=w.heap.size) U) (by kernel_rfl) (zn.drew _ _) (fun hSw=>?_);refine tH 0 (.pointer (some ⟨p,0,none⟩)) hSw ?_;(try simp only[nS]);refine tH 1 (.pointer (some ⟨p,0,none⟩)) hSw ?_;(try simp only[nS]);refine tH 2 (.pointer (some ⟨p,0,none⟩)) hSw ?_;(try simp only[nS]);refine tG 3 (.pointer (some ⟨b,0,none⟩)) hSw (fun W hW=>?_) ?_
   · have d0:=hW.cell (by dsimp only;omega) d0
     first|(go_simp;done)|rfl
   (try simp only[nS]);refine tH 4 (.pointer (some ⟨w.heap.size,5,none⟩)) hSw ?_;(try simp only[nS]);refine tG 5 (.int .i64 (m:Int)) hSw (fun W hW=>?_) ?_
   · have i5:=hW.cell (by dsimp only;omega) i5
     first|(go_simp;done)|rfl
   (try simp only[nS]);refine tR 6 (fun K hK=>?_);clear hSw;go_simp;refine (Qm ow U.drew b n m W v (H1.out.keeps (But.of (ls:=[]) (below_drewN' (Below.refl _ _))) (.refl _ _) (by simp) (by simp)) hm hlt).mono ?_;rintro e w2 ⟨rfl,rfl⟩;refine hK.out _ _ (zn.drew _ _) (fun hSw=>?_);clear hK K;(try simp only[nS]);refine tH 7 (.tuple #[.int .i64 0,.bool false]) hSw ?_;(try simp only[nS]);refine tH 8 (.int .i64 0) hSw ?_;(try simp only[nS]);refine tH 9 (.bool false) hSw ?_;(try simp only[nS]);refine tH 10 (.int .i64 0) hSw ?_;(try simp only[nS]);refine tH 11 (.bool false) hSw ?_;(try simp only[nS]);refine wpAnyH_done (by kernel_rfl) ?_ _;go_wp2_with fail;refine (HFA.out U.drew (below_drewN' (Below.refl _ _))).mono ?_;rintro e w2 hE;obtain⟨rfl,hR⟩:=(show e = .returned (.bool true)∧zN ow b j p g n (yN W T 5) U.drew e w2 from⟨hE.1,hE⟩)
   have HR:=hid hR;clear hE hR;go_wp2_with fail;go_ret;exact ((HR.out.from (below_drewN' (Below.refl _ _))).from HB.out)
 · rw[if_neg hlt]
   go_enter Tryz.func183,Tryz.ntmps183;go_wp2_with fail;rw[←HU.out];refine wp_region_held_drew (S:=zn (fun k=>k=p∨k=w.heap.size) U) (by kernel_rfl) (zn.drew _ _) (fun hSw=>?_);refine tH 0 (.pointer (some ⟨p,0,none⟩)) hSw ?_;(try simp only[nS]);refine tH 1 (.pointer (some ⟨p,0,none⟩)) hSw ?_;(try simp only[nS]);refine tH 2 (.pointer (some ⟨p,0,none⟩)) hSw ?_;(try simp only[nS]);refine tG 3 (.pointer (some ⟨b,0,none⟩)) hSw (fun W hW=>?_) ?_
   · have d0:=hW.cell (by dsimp only;omega) d0
     first|(go_simp;done)|rfl
   (try simp only[nS]);refine tH 4 (.pointer (some ⟨w.heap.size,5,none⟩)) hSw ?_;(try simp only[nS]);refine tG 5 (.int .i64 (m:Int)) hSw (fun W hW=>?_) ?_
   · have i5:=hW.cell (by dsimp only;omega) i5
     first|(go_simp;done)|rfl
   (try simp only[nS]);refine tR 6 (fun K hK=>?_);clear hSw;go_simp;refine (Ql ow U.drew b n m W v (H1.out.keeps (But.of (ls:=[]) (below_drewN' (Below.refl _ _))) (.refl _ _) (by simp) (by simp)) hm (by omega)).mono ?_;rintro e w2 ⟨rfl,ow',v',he,h1m,hbm⟩
   have hsame:zn (fun k=>k=p∨k=w.heap.size∨k=rg) U w2:=by
    rintro k (rfl|rfl|rfl)
    · exact hbm.block _ (by show _<U.heap.size;omega) (by rw[hlabp];simp;omega)
    · exact hbm.block _ (by show _<U.heap.size;omega) (by rw[HL0.out];simp)
    · exact hbm.block _ (by show _<U.heap.size;omega) (by rw[HRL.out];simp;omega)
   have H1M:=hid h1m;have H2M:=hid ((H2.out.keeps (But.of (ls:=[]) (below_drewN' (Below.refl _ _))) (.refl _ _) (by simp)).keeps hbm he (by simp;omega));have HKM:=hid (((Kp.of HB.out).drew).trans (.refl _ _) (hbm.kp (j:=j) (by intro l hl;simp at hl;unfold Mine;omega)));have HEM:=hid (show Ext ow ow' w from fun k hk=>he k (by show _<U.heap.size;omega));have hzm:=hbm.size;clear he h1m hbm;refine hK.out _ _ (fun k hk=>hsame k (by omega)) (fun hSw=>?_);clear hK K;(try simp only[nS]);refine tH 7 (.tuple #[.int .i64 (W.words.length:Int),.bool true]) hSw ?_;(try simp only[nS]);refine tH 8 (.int .i64 (W.words.length:Int)) hSw ?_;(try simp only[nS]);refine tH 9 (.bool true) hSw ?_;(try simp only[nS]);refine tH 10 (.int .i64 (W.words.length:Int)) hSw ?_;(try simp only[nS]);refine tH 11 (.bool true) hSw ?_;(try simp only[nS]);refine wpAnyH_done (by kernel_rfl) ?_ _;have i2:=hsame.cell (a:=⟨w.heap.size,2,none⟩) (by simp) i2;have d4:=hsame.cell (a:=⟨p,4,none⟩) (by simp) d4;have s0:=hsame.cell (a:=⟨rg,a,none⟩) (by simp) s0;have f0:=hsame.frozen (a:=⟨rg,a,none⟩) (by simp) f0;have hz2:w.heap.size+1≤w2.heap.size:=by rw[←hzU];exact hzm
   clear hsame i0 i1 i3 i4 i5 d0 hSw;go_wp2_with fail;refine yO (S:=zk (w2.heap.size) w2) (fun j=>decide (7≤j)) (by kernel_rfl) (zk.drew _ _) (fun hSw=>?_);refine lH 0 (.pointer (some ⟨p,0,none⟩)) hSw ?_;(try simp only[nS]);refine lH 1 (.pointer (some ⟨p,0,none⟩)) hSw ?_;(try simp only[nS]);refine lH 2 (.pointer (some ⟨p,4,none⟩)) hSw ?_;(try simp only[nS]);refine lG 3 (.slice (some ⟨rg,0,none⟩) NR NR) hSw (fun W hW=>?_) ?_
   · have d4:=hW.cell (by dsimp only;omega) d4
     first|(go_simp;done)|rfl
   (try simp only[nS]);refine lH 4 (.pointer (some ⟨w.heap.size,2,none⟩)) hSw ?_;(try simp only[nS]);refine lG 5 (.int .i64 (a:Int)) hSw (fun W hW=>?_) ?_
   · have i2:=hW.cell (by dsimp only;omega) i2
     first|(go_simp;done)|rfl
   (try simp only[nS]);refine lH 6 (.int .i64 (W.words.length:Int)) hSw ?_;(try simp only[nS]);refine yP (rs:=[7]) (by kernel_rfl) (by simp) (by rfl) ?_;refine oR 7 (fun J hK=>?_);go_simp;refine hK.out _ _ ?_;clear hK J;(try simp only[nS]);refine oR 8 (fun J hK=>?_);go_simp;refine hK.out _ _ ?_;clear hK J;(try simp only[nS]);refine wpAny_done (by kernel_rfl) ?_ _;go_wp2_with fail;go_ret;exact zN.after HKM.out HEM.out (jq (Below.refl _ _) H1M.out H2M.out HER.out (W.words.length:Int) rfl)
theorem Qy (ow:Nat→Nat) (w:World) (b j p n:Nat) (g:Gr) (W:WS) (T:TS) (v rs us ts ws:Value) (k o:Int) (a m:Nat) (bb cc:Int) (h1:WAt ow w b W n v) (h2:TAt ow w b j p g T rs us ts ws) (ha:a<T.regs.length) (hm:m≤64) (hok:UOk T.undo T.since W.words.length) (hu:T.undo.length≤1048576) :
 Calls Tryz.prog 183 #[.pointer (some ⟨p,0,none⟩),.agg #[.int .u8 k,.int .u8 o,.int .i64 (a:Int),.int .i64 bb,.int .i64 cc,.int .i64 (m:Int)]] w (zN ow b j p g n (if 65536<(W.words.length:Int) - 1+(m:Int) then yN W T 5 else ({ W with words:=W.words++List.replicate m 0 },T.setR (a:Int) (W.words.length:Int),false)) w):=
 (Qs (low ow w.heap.size) w b j p n g W T v rs us ts ws k o a m bb cc h1.low h2.low (fun k hk=>kv _ _ _ hk) ha hm hok hu).mono fun _ _ h=>h.relab (j6 _ _)
theorem Y7 (ow:Nat→Nat) (w:World) (b j p n:Nat) (g:Gr) (W:WS) (T:TS) (v rs us ts ws:Value) (k o:Int) (a bb:Nat) (cc x:Int) (h1:WAt ow w b W n v) (h2:TAt ow w b j p g T rs us ts ws) (ha:a<T.regs.length) (hb:bb<T.regs.length) (hc:cc<0∨cc.toNat<T.regs.length) (hok:UOk T.undo T.since W.words.length) (hu:T.undo.length≤1048576) :
 Calls Tryz.prog 184 #[.pointer (some ⟨p,0,none⟩),.agg #[.int .u8 k,.int .u8 o,.int .i64 (a:Int),.int .i64 (bb:Int),.int .i64 cc,.int .i64 x]] w (zN ow b j p g n (loadT W T ⟨k,o,(a:Int),(bb:Int),cc,x⟩) w):=by
 obtain⟨rg,er,hrg,hrl⟩:=h2.regs;have her:=er;obtain⟨U,hU⟩:∃ U,U=w.alloc (.cells #[.int .u8 k,.int .u8 o,.int .i64 (a:Int),.int .i64 (bb:Int),.int .i64 cc,.int .i64 x] 159):=⟨_,rfl⟩
 have hBU:Below w.heap.size w U:=by rw[hU];exact ze w _
 have hzU:U.heap.size=w.heap.size+1:=by rw[hU];simp
 have hO:U.heap[w.heap.size]? = some (.cells #[.int .u8 k,.int .u8 o,.int .i64 (a:Int),.int .i64 (bb:Int),.int .i64 cc,.int .i64 x] 159 (0,0)):=by rw[hU];exact (MapKept.heap_alloc _ _).1
 have h1U:=h1.keeps (But.of (ls:=[]) hBU) (.refl _ _) (by simp) (by simp);have h2U:=h2.keeps (But.of (ls:=[]) hBU) (.refl _ _) (by simp);have hlp:p<w.heap.size:=z8 h2.box;have hlb:b<w.heap.size:=z8 h1.box;have hlr:rg<w.heap.size:=z8 hrg;have hrgU:=(hBU.block rg hlr).trans hrg;obtain⟨d0,d3,d4,d5,d6,d7,d8,d9,d10,d11,d12⟩:=h2U.cells;obtain⟨e0,e1,e2⟩:=h1U.cells;rw[her]at d4;obtain⟨i0,i1,i2,i3,i4,i5⟩:=zl hO;have fr:=fun (q:Nat)=>Lib.frozen_of_heap hrgU q
 obtain⟨NR,hNR⟩:∃ N,N=T.regs.length:=⟨_,rfl⟩
 have hax:a<NR:=by rw[hNR];exact ha
 have HFA:=hid (fun (u:World) (hb:Below U.heap.size U u)=>jd ow u b j p n g W T v rs us ts ws 8 (h1U.keeps (But.of (ls:=[]) hb) (.refl _ _) (by simp) (by simp)) (h2U.keeps (But.of (ls:=[]) hb) (.refl _ _) (by simp)) hok hu);have HME:=hid (ui ow U b j p n g W T v rs us ts ws k o (a:Int) bb cc hc x h1U h2U hb);obtain⟨i,hi⟩:∃ i:In,i=⟨k,o,(a:Int),(bb:Int),cc,x⟩:=⟨_,rfl⟩
 have hia:i.a=(a:Int):=by rw[hi]
 rw[←hi]at HME ⊢;have f0:=fr a;obtain⟨y,hy⟩:∃ y,T.regs[a]? = some y:=⟨_,List.getElem?_eq_getElem ha⟩
 have s0:=zT hrgU a y hy;obtain⟨A,hA⟩:∃ A,A=yf T i:=⟨_,rfl⟩
 unfold qy at HME;rw[←hA]at HME;have hW0:=h1U;have H1:=hid h1U;have H2:=hid h2U;have HB:=hid hBU;have HU:=hid hU;have HER:=hid her;rw[←hNR]at d4;have HNR:=hid hNR;clear d3 d5 d6 d7 d8 d9 d10 d11 d12 e0 e1 e2;clear h1 h2 h1U h2U hBU hO hrg hrgU hrl er her hU hNR hb ha hc fr hok hu hy hi
 by_cases hh:yM W A=true
 · have hres:loadT W T i=(W,T.setR (a:Int) ((W.words[A.toNat]?).getD 0),false):=by unfold loadT;rw[←hA,if_pos hh,hia]
   rw[hres];rw[hh]at HME
   have hA1:∃ N:Nat,A=(N:Int)∧N<W.words.length:=by
    unfold yM at hh;simp only[Bool.and_eq_true,decide_eq_true_eq]at hh;exact⟨A.toNat,by omega,by omega⟩
   obtain⟨N,rfl,hN⟩:=hA1;obtain⟨wg,cap,z,rfl,hcap,hwg,hz,hcell,hfz,hlw,_⟩:=hW0.setW N hN;have hwm:=hW0.many;obtain⟨e0,_,_⟩:=hW0.cells;rw[Int.toNat_natCast,hz,Option.getD_some];obtain⟨NW,hNW⟩:∃ M,M=W.words.length:=⟨_,rfl⟩
   rw[←hNW]at hN hcap hwm e0;clear hres hh hia hA hNW hz hW0 hfz hlw;go_enter Tryz.func184,Tryz.ntmps184;go_wp2_with fail;rw[←HU.out];refine HME.out.mono ?_;rintro e w2 ⟨rfl,hb2⟩;have hz2:=hb2.size;have i2:=(hb2.cell (p:=⟨w.heap.size,2,none⟩) (by dsimp only;omega)).trans i2;have d4:=(hb2.cell (p:=⟨p,4,none⟩) (by dsimp only;omega)).trans d4;have d0:=(hb2.cell (p:=⟨p,0,none⟩) (by dsimp only;omega)).trans d0;have e0:=(hb2.cell (p:=⟨b,0,none⟩) (by dsimp only;omega)).trans e0;have hcell:=(hb2.cell (p:=⟨wg,N,none⟩) hwg).trans hcell;have s0:=(hb2.cell (p:=⟨rg,a,none⟩) (by dsimp only;omega)).trans s0;have f0:w2.frozen? ⟨rg,a,none⟩ = false:=by rw[←f0];simp only[World.frozen?,hb2.block rg (by omega)]
   have H1':=hid (H1.out.keeps (But.of (ls:=[]) hb2) (.refl _ _) (by simp) (by simp));have H2':=hid (H2.out.keeps (But.of (ls:=[]) hb2) (.refl _ _) (by simp));have HB':=hid (HB.out.trans (hb2.mono (by omega)));have hwg2:wg<w2.heap.size:=by omega
   clear hb2 i0 i1 i3 i4 i5;go_wp2_with fail;refine yO (S:=zk (w2.heap.size) w2) (fun j=>decide (16≤j)) (by kernel_rfl) (zk.drew _ _) (fun hSw=>?_);refine lH 0 (.pointer (some ⟨p,0,none⟩)) hSw ?_;(try simp only[nS]);refine lH 1 (.pointer (some ⟨p,0,none⟩)) hSw ?_;(try simp only[nS]);refine lH 2 (.pointer (some ⟨p,4,none⟩)) hSw ?_;(try simp only[nS]);refine lG 3 (.slice (some ⟨rg,0,none⟩) NR NR) hSw (fun W hW=>?_) ?_
   · have d4:=hW.cell (by dsimp only;omega) d4
     first|(go_simp;done)|rfl
   (try simp only[nS]);refine lH 4 (.pointer (some ⟨w.heap.size,2,none⟩)) hSw ?_;(try simp only[nS]);refine lG 5 (.int .i64 (a:Int)) hSw (fun W hW=>?_) ?_
   · have i2:=hW.cell (by dsimp only;omega) i2
     first|(go_simp;done)|rfl
   (try simp only[nS]);refine lH 6 (.pointer (some ⟨p,0,none⟩)) hSw ?_;(try simp only[nS]);refine lH 7 (.pointer (some ⟨p,0,none⟩)) hSw ?_;(try simp only[nS]);refine lH 8 (.pointer (some ⟨p,0,none⟩)) hSw ?_;(try simp only[nS]);refine lG 9 (.pointer (some ⟨b,0,none⟩)) hSw (fun W hW=>?_) ?_
   · have d0:=hW.cell (by dsimp only;omega) d0
     first|(go_simp;done)|rfl
   (try simp only[nS]);refine lH 10 (.pointer (some ⟨b,0,none⟩)) hSw ?_;(try simp only[nS]);refine lH 11 (.pointer (some ⟨b,0,none⟩)) hSw ?_;(try simp only[nS]);refine lG 12 (.slice (some ⟨wg,0,none⟩) NW cap) hSw (fun W hW=>?_) ?_
   · have e0:=hW.cell (by dsimp only;omega) e0
     first|(go_simp;done)|rfl
   (try simp only[nS]);refine lH 13 (.int .i64 (N:Int)) hSw ?_;(try simp only[nS]);refine lH 14 (.pointer (some ⟨wg,N,none⟩)) hSw ?_;(try simp only[nS]);refine lG 15 (.int .i64 z) hSw (fun W hW=>?_) ?_
   · have hcell:=hW.cell (by dsimp only;omega) hcell
     first|(go_simp;done)|rfl
   (try simp only[nS]);refine yP (rs:=[16]) (by kernel_rfl) (by simp) (by rfl) ?_;refine oR 16 (fun J hK=>?_);go_simp;refine hK.out _ _ ?_;clear hK J;(try simp only[nS]);refine oR 17 (fun J hK=>?_);go_simp;refine hK.out _ _ ?_;clear hK J;(try simp only[nS]);refine wpAny_done (by kernel_rfl) ?_ _;go_wp2_with fail;go_ret;exact jq HB'.out H1'.out H2'.out HER.out z rfl
 · have hres:loadT W T i=yN W T 8:=by unfold loadT;rw[←hA,if_neg hh]
   rw[hres];have hh2:yM W A=false:=by simpa using hh
   rw[hh2]at HME;clear hres hh hh2 hia hA hW0;go_enter Tryz.func184,Tryz.ntmps184;go_wp2_with fail;rw[←HU.out];refine HME.out.mono ?_;rintro e w2 ⟨rfl,hb2⟩;have HB2:=hid hb2;clear hb2;go_wp2_with fail;refine (HFA.out w2 HB2.out).mono ?_;rintro e w3 hE;obtain⟨rfl,hR⟩:=(show e = .returned (.bool true)∧zN ow b j p g n (yN W T 8) w2 e w3 from⟨hE.1,hE⟩)
   have HR:=hid hR;clear hE hR;go_wp2_with fail;go_ret;exact ((HR.out.from HB2.out).from HB.out)
def uS (ow:Nat→Nat) (b j p n:Nat) (g:Gr) (W:WS) (T:TS) (i:In) (v rs us ts ws:Value) (w:World) (e:Ending) (w':World):Prop:=
 e = .returned (.tuple #[])∧WAt ow w' b (yQ W T i) n v∧TAt ow w' b j p g T rs us ts ws∧But ow [1] w w'
theorem ZC (ow:Nat→Nat) (w:World) (b j p n:Nat) (g:Gr) (W:WS) (T:TS) (v rs us ts ws:Value) (k o:Int) (a bb:Nat) (cc x:Int) (h1:WAt ow w b W n v) (h2:TAt ow w b j p g T rs us ts ws) (_ha:a<T.regs.length) (hb:bb<T.regs.length) (hc:cc<0∨cc.toNat<T.regs.length) :
 Calls Tryz.prog 213 #[.pointer (some ⟨p,0,none⟩),.agg #[.int .u8 k,.int .u8 o,.int .i64 (a:Int),.int .i64 (bb:Int),.int .i64 cc,.int .i64 x]] w (uS ow b j p n g W T ⟨k,o,(a:Int),(bb:Int),cc,x⟩ v rs us ts ws w):=by
 obtain⟨U,hU⟩:∃ U,U=w.alloc (.cells #[.int .u8 k,.int .u8 o,.int .i64 (a:Int),.int .i64 (bb:Int),.int .i64 cc,.int .i64 x] 159):=⟨_,rfl⟩
 have hBU:Below w.heap.size w U:=by rw[hU];exact ze w _
 have hzU:U.heap.size=w.heap.size+1:=by rw[hU];simp
 have hO:U.heap[w.heap.size]? = some (.cells #[.int .u8 k,.int .u8 o,.int .i64 (a:Int),.int .i64 (bb:Int),.int .i64 cc,.int .i64 x] 159 (0,0)):=by rw[hU];exact (MapKept.heap_alloc _ _).1
 have h1U:=h1.keeps (But.of (ls:=[]) hBU) (.refl _ _) (by simp) (by simp);have h2U:=h2.keeps (But.of (ls:=[]) hBU) (.refl _ _) (by simp);obtain⟨i0,i1,i2,i3,i4,i5⟩:=zl hO;have HME:=hid (ui ow U b j p n g W T v rs us ts ws k o (a:Int) bb cc hc x h1U h2U hb);obtain⟨i,hi⟩:∃ i:In,i=⟨k,o,(a:Int),(bb:Int),cc,x⟩:=⟨_,rfl⟩
 rw[←hi]at HME ⊢;obtain⟨A,hA⟩:∃ A,A=yf T i:=⟨_,rfl⟩
 unfold qy at HME;rw[←hA]at HME;have hown:yQ W T i=if yM W A=true∧A<(T.since:Int) then { W with strange:=true } else W:=by unfold yQ;rw[←hA]
 have HU:=hid hU;have H1:=hid h1U;have H2:=hid h2U;have HB:=hid hBU;have hlp:p<w.heap.size:=z8 h2.box;have hlb:b<w.heap.size:=z8 h1.box;have d0:=h2U.cells.1;have d8:=h2U.cells.2.2.2.2.2.2.1;have e2:=h1U.cells.2.2;have fb:=Lib.frozen_of_heap h1U.box 2;have hmk:∀ w2,Below U.heap.size U w2→WAt ow w2 b W n v∧TAt ow w2 b j p g T rs us ts ws:=fun w2 hb2=>⟨h1U.keeps (But.of (ls:=[]) hb2) (.refl _ _) (by simp) (by simp),h2U.keeps (But.of (ls:=[]) hb2) (.refl _ _) (by simp)⟩
 have HMK:=hid hmk;obtain⟨S,hS⟩:∃ S,S=T.since:=⟨_,rfl⟩
 rw[←hS]at d8 hown;clear h1 h2 h1U h2U hBU hO hU hb hc hi hmk hA hS
 by_cases hh:yM W A=true
 · rw[hh]at HME hown
   by_cases hA2:A<(S:Int)
   · rw[if_pos ⟨rfl,hA2⟩]at hown
     have HOW:=hid hown;clear hown;go_enter Tryz.func213,Tryz.ntmps213;go_wp2_with fail;rw[←HU.out];refine HME.out.mono ?_;rintro e w2 ⟨rfl,hb2⟩;have hz2:=hb2.size;have HB2:=hid hb2;have d0:=(hb2.cell (p:=⟨p,0,none⟩) (by dsimp only;omega)).trans d0;have d8:=(hb2.cell (p:=⟨p,8,none⟩) (by dsimp only;omega)).trans d8;have e2:=(hb2.cell (p:=⟨b,2,none⟩) (by dsimp only;omega)).trans e2;have fb:w2.frozen? ⟨b,2,none⟩ = false:=by rw[←fb];simp only[World.frozen?,hb2.block b (by omega)]
     clear hb2;go_wp2_with fail
     go_end0
     obtain⟨g1,g2⟩:=HMK.out _ HB2.out;have hs1:But ow [1] w2 (w2.setCell ⟨b,2,none⟩ (.bool true)):=xX _ _ g1.lab;refine⟨rfl, ?_,g2.keeps hs1 (.refl _ _) (by simp;omega),zw (But.of (HB.out.trans (HB2.out.mono (by omega)))) hs1⟩;rw[HOW.out];exact⟨kT 2 _ g1.box rfl,zM g1.row hs1 g1.labr (by simp),g1.lab,g1.labr,g1.big,g1.many⟩
   · rw[if_neg (fun q=>hA2 q.2)]at hown
     have HOW:=hid hown;clear hown;go_enter Tryz.func213,Tryz.ntmps213;go_wp2_with fail;rw[←HU.out];refine HME.out.mono ?_;rintro e w2 ⟨rfl,hb2⟩;have hz2:=hb2.size;have HB2:=hid hb2;have d0:=(hb2.cell (p:=⟨p,0,none⟩) (by dsimp only;omega)).trans d0;have d8:=(hb2.cell (p:=⟨p,8,none⟩) (by dsimp only;omega)).trans d8;have e2:=(hb2.cell (p:=⟨b,2,none⟩) (by dsimp only;omega)).trans e2;have fb:w2.frozen? ⟨b,2,none⟩ = false:=by rw[←fb];simp only[World.frozen?,hb2.block b (by omega)]
     clear hb2;go_wp2_with fail
     go_end0
     obtain⟨g1,g2⟩:=HMK.out _ HB2.out;refine⟨rfl, ?_,g2,But.of (HB.out.trans (HB2.out.mono (by omega)))⟩;rw[HOW.out];exact g1
 · have hh2:yM W A=false:=by simpa using hh
   rw[hh2]at HME hown;rw[if_neg (fun q=>by cases q.1)]at hown;have HOW:=hid hown;clear hown;go_enter Tryz.func213,Tryz.ntmps213;go_wp2_with fail;rw[←HU.out];refine HME.out.mono ?_;rintro e w2 ⟨rfl,hb2⟩;have hz2:=hb2.size;have HB2:=hid hb2;have d0:=(hb2.cell (p:=⟨p,0,none⟩) (by dsimp only;omega)).trans d0;have d8:=(hb2.cell (p:=⟨p,8,none⟩) (by dsimp only;omega)).trans d8;have e2:=(hb2.cell (p:=⟨b,2,none⟩) (by dsimp only;omega)).trans e2;have fb:w2.frozen? ⟨b,2,none⟩ = false:=by rw[←fb];simp only[World.frozen?,hb2.block b (by omega)]
   clear hb2;go_wp2_with fail
   go_end0
   obtain⟨g1,g2⟩:=HMK.out _ HB2.out;refine⟨rfl, ?_,g2,But.of (HB.out.trans (HB2.out.mono (by omega)))⟩;rw[HOW.out];exact g1
theorem VE (ow:Nat→Nat) (w:World) (b j p n:Nat) (g:Gr) (W:WS) (T:TS) (v rs us ts ws:Value) (k o:Int) (a bb:Nat) (cc x:Int) (h1:WAt ow w b W n v) (h2:TAt ow w b j p g T rs us ts ws) (ha:a<T.regs.length) (hb:bb<T.regs.length) (hc:cc<0∨cc.toNat<T.regs.length) (hok:UOk T.undo T.since W.words.length) (hu:T.undo.length≤1048576) (hl0:∀ k,w.heap.size≤k→ow k=0) :
 Calls Tryz.prog 186 #[.pointer (some ⟨p,0,none⟩),.agg #[.int .u8 k,.int .u8 o,.int .i64 (a:Int),.int .i64 (bb:Int),.int .i64 cc,.int .i64 x]] w (zN ow b j p g n (loadT (yQ W T ⟨k,o,(a:Int),(bb:Int),cc,x⟩) T ⟨k,o,(a:Int),(bb:Int),cc,x⟩) w):=by
 obtain⟨U,hU⟩:∃ U,U=w.alloc (.cells #[.int .u8 k,.int .u8 o,.int .i64 (a:Int),.int .i64 (bb:Int),.int .i64 cc,.int .i64 x] 159):=⟨_,rfl⟩
 have hBU:Below w.heap.size w U:=by rw[hU];exact ze w _
 have hzU:U.heap.size=w.heap.size+1:=by rw[hU];simp
 have hO:U.heap[w.heap.size]? = some (.cells #[.int .u8 k,.int .u8 o,.int .i64 (a:Int),.int .i64 (bb:Int),.int .i64 cc,.int .i64 x] 159 (0,0)):=by rw[hU];exact (MapKept.heap_alloc _ _).1
 have h1U:=h1.keeps (But.of (ls:=[]) hBU) (.refl _ _) (by simp) (by simp);have h2U:=h2.keeps (But.of (ls:=[]) hBU) (.refl _ _) (by simp);obtain⟨i0,i1,i2,i3,i4,i5⟩:=zl hO;have HOWN:=hid (ZC ow U b j p n g W T v rs us ts ws k o a bb cc x h1U h2U ha hb hc);have hwl:(yQ W T ⟨k,o,(a:Int),(bb:Int),cc,x⟩).words=W.words:=by unfold yQ;split <;> rfl
 obtain⟨W',hW'⟩:∃ W',W'=yQ W T ⟨k,o,(a:Int),(bb:Int),cc,x⟩:=⟨_,rfl⟩
 rw[←hW']at hwl ⊢;unfold uS at HOWN;rw[←hW']at HOWN;rw[←hwl]at hok;have HC:=hid (fun (u:World) (h1:WAt ow u b W' n v) (h2:TAt ow u b j p g T rs us ts ws)=>Y7 ow u b j p n g W' T v rs us ts ws k o a bb cc x h1 h2 ha hb hc hok hu);have HU:=hid hU;have HB:=hid hBU;have hlw:ow w.heap.size≠1:=by rw[hl0 _ (Nat.le_refl _)];omega
 clear h1 h2 h1U h2U hBU hO hU ha hb hc hok hu hwl hW' hl0;go_enter Tryz.func186,Tryz.ntmps186;go_wp2_with fail;rw[←HU.out];refine HOWN.out.mono ?_;rintro e w2 ⟨rfl,g1,g2,g3⟩;have hs:w2.heap[w.heap.size]? = U.heap[w.heap.size]?:=g3.block _ (by omega) (by simpa using hlw);have mv:∀ off u,U.cell? ⟨w.heap.size,off,none⟩ = some u→w2.cell? ⟨w.heap.size,off,none⟩ = some u:=fun off u h=>by rw[←h];simp only[World.cell?,hs]
 have i0:=mv _ _ i0;have i1:=mv _ _ i1;have i2:=mv _ _ i2;have i3:=mv _ _ i3;have i4:=mv _ _ i4;have i5:=mv _ _ i5;have G1:=hid g1;have G2:=hid g2;have HK:=hid ((Kp.of (j:=j) HB.out).trans (.refl _ _) (g3.kp (by intro l hl;simp at hl;unfold Mine;omega)));clear g1 g2 g3 hs mv;go_wp2_with fail;refine (HC.out w2 G1.out G2.out).mono ?_;rintro e w3 hE;obtain⟨r,hr⟩:=(show ∃ r,e = .returned (.bool r)from⟨_,hE.1⟩)
 subst hr;have HE:=hid hE;clear hE;go_wp2_with fail;go_ret;exact HE.out.after HK.out (.refl _ _)
theorem VF (ow:Nat→Nat) (w:World) (b j p n:Nat) (g:Gr) (W:WS) (T:TS) (v rs us ts ws:Value) (k o:Int) (a bb:Nat) (cc x:Int) (h1:WAt ow w b W n v) (h2:TAt ow w b j p g T rs us ts ws) (ha:a<T.regs.length) (hb:bb<T.regs.length) (hc:cc<0∨cc.toNat<T.regs.length) (hok:UOk T.undo T.since W.words.length) (hu:T.undo.length≤1048576) :
 Calls Tryz.prog 186 #[.pointer (some ⟨p,0,none⟩),.agg #[.int .u8 k,.int .u8 o,.int .i64 (a:Int),.int .i64 (bb:Int),.int .i64 cc,.int .i64 x]] w (zN ow b j p g n (loadT (yQ W T ⟨k,o,(a:Int),(bb:Int),cc,x⟩) T ⟨k,o,(a:Int),(bb:Int),cc,x⟩) w):=
 (VE (low ow w.heap.size) w b j p n g W T v rs us ts ws k o a bb cc x h1.low h2.low ha hb hc hok hu (fun k hk=>kv _ _ _ hk)).mono fun _ _ h=>h.relab (j6 _ _)
theorem VC (ow:Nat→Nat) (w:World) (b j p n:Nat) (g:Gr) (W:WS) (T:TS) (v rs us ts ws:Value) (k o:Int) (a bb:Nat) (cc x:Int) (h1:WAt ow w b W n v) (h2:TAt ow w b j p g T rs us ts ws) (ha:a<T.regs.length) (hb:bb<T.regs.length) (hc:cc<0∨cc.toNat<T.regs.length) (hok:UOk T.undo T.since W.words.length) (hu:T.undo.length≤1048576) (hl0:∀ k,w.heap.size≤k→ow k=0) :
 Calls Tryz.prog 187 #[.pointer (some ⟨p,0,none⟩),.agg #[.int .u8 k,.int .u8 o,.int .i64 (a:Int),.int .i64 (bb:Int),.int .i64 cc,.int .i64 x]] w (zN ow b j p g n (storeT (yQ W T ⟨k,o,(a:Int),(bb:Int),cc,x⟩) T ⟨k,o,(a:Int),(bb:Int),cc,x⟩) w):=by
 obtain⟨U,hU⟩:∃ U,U=w.alloc (.cells #[.int .u8 k,.int .u8 o,.int .i64 (a:Int),.int .i64 (bb:Int),.int .i64 cc,.int .i64 x] 159):=⟨_,rfl⟩
 have hBU:Below w.heap.size w U:=by rw[hU];exact ze w _
 have hzU:U.heap.size=w.heap.size+1:=by rw[hU];simp
 have hO:U.heap[w.heap.size]? = some (.cells #[.int .u8 k,.int .u8 o,.int .i64 (a:Int),.int .i64 (bb:Int),.int .i64 cc,.int .i64 x] 159 (0,0)):=by rw[hU];exact (MapKept.heap_alloc _ _).1
 have h1U:=h1.keeps (But.of (ls:=[]) hBU) (.refl _ _) (by simp) (by simp);have h2U:=h2.keeps (But.of (ls:=[]) hBU) (.refl _ _) (by simp);obtain⟨i0,i1,i2,i3,i4,i5⟩:=zl hO;have HOWN:=hid (ZC ow U b j p n g W T v rs us ts ws k o a bb cc x h1U h2U ha hb hc);have hwl:(yQ W T ⟨k,o,(a:Int),(bb:Int),cc,x⟩).words=W.words:=by unfold yQ;split <;> rfl
 obtain⟨W',hW'⟩:∃ W',W'=yQ W T ⟨k,o,(a:Int),(bb:Int),cc,x⟩:=⟨_,rfl⟩
 rw[←hW']at hwl ⊢;unfold uS at HOWN;rw[←hW']at HOWN;rw[←hwl]at hok;have HC:=hid (fun (u:World) (h1:WAt ow u b W' n v) (h2:TAt ow u b j p g T rs us ts ws)=>Z7 ow u b j p n g W' T v rs us ts ws k o a bb cc x h1 h2 ha hb hc hok hu);have HU:=hid hU;have HB:=hid hBU;have hlw:ow w.heap.size≠1:=by rw[hl0 _ (Nat.le_refl _)];omega
 clear h1 h2 h1U h2U hBU hO hU ha hb hc hok hu hwl hW' hl0;go_enter Tryz.func187,Tryz.ntmps187;go_wp2_with fail;rw[←HU.out];refine HOWN.out.mono ?_;rintro e w2 ⟨rfl,g1,g2,g3⟩;have hs:w2.heap[w.heap.size]? = U.heap[w.heap.size]?:=g3.block _ (by omega) (by simpa using hlw);have mv:∀ off u,U.cell? ⟨w.heap.size,off,none⟩ = some u→w2.cell? ⟨w.heap.size,off,none⟩ = some u:=fun off u h=>by rw[←h];simp only[World.cell?,hs]
 have i0:=mv _ _ i0;have i1:=mv _ _ i1;have i2:=mv _ _ i2;have i3:=mv _ _ i3;have i4:=mv _ _ i4;have i5:=mv _ _ i5;have G1:=hid g1;have G2:=hid g2;have HK:=hid ((Kp.of (j:=j) HB.out).trans (.refl _ _) (g3.kp (by intro l hl;simp at hl;unfold Mine;omega)));clear g1 g2 g3 hs mv;go_wp2_with fail;refine (HC.out w2 G1.out G2.out).mono ?_;rintro e w3 hE;obtain⟨r,hr⟩:=(show ∃ r,e = .returned (.bool r)from⟨_,hE.1⟩)
 subst hr;have HE:=hid hE;clear hE;go_wp2_with fail;go_ret;exact HE.out.after HK.out (.refl _ _)
theorem VD (ow:Nat→Nat) (w:World) (b j p n:Nat) (g:Gr) (W:WS) (T:TS) (v rs us ts ws:Value) (k o:Int) (a bb:Nat) (cc x:Int) (h1:WAt ow w b W n v) (h2:TAt ow w b j p g T rs us ts ws) (ha:a<T.regs.length) (hb:bb<T.regs.length) (hc:cc<0∨cc.toNat<T.regs.length) (hok:UOk T.undo T.since W.words.length) (hu:T.undo.length≤1048576) :
 Calls Tryz.prog 187 #[.pointer (some ⟨p,0,none⟩),.agg #[.int .u8 k,.int .u8 o,.int .i64 (a:Int),.int .i64 (bb:Int),.int .i64 cc,.int .i64 x]] w (zN ow b j p g n (storeT (yQ W T ⟨k,o,(a:Int),(bb:Int),cc,x⟩) T ⟨k,o,(a:Int),(bb:Int),cc,x⟩) w):=
 (VC (low ow w.heap.size) w b j p n g W T v rs us ts ws k o a bb cc x h1.low h2.low ha hb hc hok hu (fun k hk=>kv _ _ _ hk)).mono fun _ _ h=>h.relab (j6 _ _)
