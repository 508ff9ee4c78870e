import Derived.Test.YtlboinokdhmacaaGreatDoorRlCount
namespace Go.Proofs.YtlboinokdhmacaaGreatDoor
set_option maxHeartbeats 64000000
set_option maxRecDepth 1000000
open Lib(hid)
open Go.RowKit
attribute [local go_sem ↓] zL zJ
theorem Ym:∀ (fn:Go.Fn) (first cap:Array Value) (w:World),(Instr.makeFunc fn first cap).run Tryz.prog w = .ok (.func fn first cap) w:=fun _ _ _ _=>rfl
theorem Y2 (fn:Go.Fn) (xs ys:Array Value) (w:World):(bls 122 1 #[(0,.func fn xs ys)]).run Tryz.prog w = .ok (.slice (some ⟨w.heap.size,0,none⟩) 1 1) (w.alloc (.cells #[.func fn xs ys] 1)):=wP 122 1 1 1 #[(0,.func fn xs ys)] #[.func fn xs ys] (by kernel_rfl) (by kernel_rfl) (by kernel_rfl) (by omega) (by omega) (by kernel_rfl) (by kernel_rfl) w
theorem Wx {ow:Nat→Nat} {u u':World} {b j p n N wg l cap:Nat} {g:Gr} {W:WS} {T:TS} {v rs us ts ws:Value} (h1:WAt ow u b W n v) (h2:TAt ow u b j p g T rs us ts ws) (hN:N<W.words.length) (hv:v = .slice (some ⟨wg,0,none⟩) l cap) (x:Int) (hu:u'=(u.setCell ⟨wg,N,none⟩ (.int .i64 x)).drew) :
 zN ow b j p g n ({ W with words:=W.words.set N x },T,false) u (.returned (.bool false)) u':=by
 subst hu;obtain⟨wg',cap',z,e,_,_,_,_,_,_,hset⟩:=h1.setW N hN;have:wg'=wg:=by rw[hv]at e;cases e;rfl
 subst this;obtain⟨h3,h4⟩:=hset x;have hd:But ow [] (u.setCell ⟨wg',N,none⟩ (.int .i64 x)) (u.setCell ⟨wg',N,none⟩ (.int .i64 x)).drew:=But.of (below_drewN' (Below.refl _ _));refine⟨rfl,ow,v,rs,us,ts,ws,.refl _ _,h3.keeps hd (.refl _ _) (by simp) (by simp),(h2.keeps h4 (.refl _ _) (by simp;omega)).keeps hd (.refl _ _) (by simp),(h4.kp (by intro l hl;rw[List.mem_singleton.1 hl];unfold Mine;omega)).drew⟩
theorem Wi (ow:Nat→Nat) (w:World) (b j p n:Nat) (g:Gr) (W:WS) (T:TS) (v rs us ts ws:Value) (k o:Int) (a bb:Nat) (cc x:Int) (h1:WAt ow w b W n v) (h2:TAt ow w b j p g T rs us ts ws) (hl0:∀ k,w.heap.size≤k→ow k=15+8*j) (ha:a<T.regs.length) (hb:bb<T.regs.length) (hc:cc<0∨cc.toNat<T.regs.length) (hok:UOk T.undo T.since W.words.length) (hu:T.undo.length≤1048576) :
 Calls Tryz.prog 185 #[.pointer (some ⟨p,0,none⟩),.agg #[.int .u8 k,.int .u8 o,.int .i64 (a:Int),.int .i64 (bb:Int),.int .i64 cc,.int .i64 x]] w (zN ow b j p g n (storeT W T ⟨k,o,(a:Int),(bb:Int),cc,x⟩) w):=by
 obtain⟨rg,er,hrg,hrl⟩:=h2.regs;have her:=er;obtain⟨U,hU⟩:∃ U,U=(w.alloc (.cells #[.pointer (some ⟨p,0,none⟩)] 83)).alloc (.cells #[.int .u8 k,.int .u8 o,.int .i64 (a:Int),.int .i64 (bb:Int),.int .i64 cc,.int .i64 x] 159):=⟨_,rfl⟩
 have hBU:Below w.heap.size w U:=by rw[hU];exact (ze w _).trans ((ze _ _).mono (by simp))
 have hzU:U.heap.size=w.heap.size+2:=by rw[hU];simp
 have hO:U.heap[w.heap.size+1]? = some (.cells #[.int .u8 k,.int .u8 o,.int .i64 (a:Int),.int .i64 (bb:Int),.int .i64 cc,.int .i64 x] 159 (0,0)):=by rw[hU];have:=(MapKept.heap_alloc (w.alloc (.cells #[.pointer (some ⟨p,0,none⟩)] 83)) (.cells #[.int .u8 k,.int .u8 o,.int .i64 (a:Int),.int .i64 (bb:Int),.int .i64 cc,.int .i64 x] 159)).1;simpa using this
 have hC2:U.heap[w.heap.size]? = some (.cells #[.pointer (some ⟨p,0,none⟩)] 83 (0,0)):=by rw[hU];exact (Below.heap_alloc _ _ _ (by simp)).trans (MapKept.heap_alloc w _).1
 have h1U:=h1.keeps (But.of (ls:=[]) hBU) (.refl _ _) (by simp) (by simp);have h2U:=h2.keeps (But.of (ls:=[]) hBU) (.refl _ _) (by simp);have hlp:p<w.heap.size:=z8 h2.box;have hlb:b<w.heap.size:=z8 h1.box;have hlr:rg<w.heap.size:=z8 hrg;have hrgU:=(hBU.block rg hlr).trans hrg;have c2:=zh hC2 0 _ rfl;obtain⟨d0,d3,d4,d5,d6,d7,d8,d9,d10,d11,d12⟩:=h2U.cells;obtain⟨e0,e1,e2⟩:=h1U.cells;rw[her]at d4;obtain⟨i0,i1,i2,i3,i4,i5⟩:=zl hO;obtain⟨NR,hNR⟩:∃ N,N=T.regs.length:=⟨_,rfl⟩
 have hax:a<NR:=by rw[hNR];exact ha
 have HFA:=hid (fun (u:World) (hb:Below U.heap.size U u)=>jd ow u b j p n g W T v rs us ts ws 8 (h1U.keeps (But.of (ls:=[]) hb) (.refl _ _) (by simp) (by simp)) (h2U.keeps (But.of (ls:=[]) hb) (.refl _ _) (by simp)) hok hu);have HME:=hid (ui ow U b j p n g W T v rs us ts ws k o (a:Int) bb cc hc x h1U h2U hb);obtain⟨i,hi⟩:∃ i:In,i=⟨k,o,(a:Int),(bb:Int),cc,x⟩:=⟨_,rfl⟩
 have hia:i.a=(a:Int):=by rw[hi]
 rw[←hi]at HME ⊢;obtain⟨y,hy⟩:∃ y,T.regs[a]? = some y:=⟨_,List.getElem?_eq_getElem ha⟩
 have s0:=zT hrgU a y hy;have hreg:T.reg i.a=y:=by rw[hia];exact vB hy
 obtain⟨A,hA⟩:∃ A,A=yf T i:=⟨_,rfl⟩
 unfold qy at HME;rw[←hA]at HME;have hW0:=h1U;have HL0:=hid hl0;have HUU:=hid hu;have HC2:=hid hC2;have HT9:=hid h2U.undo;have hmf:=Ym;rw[←hNR]at d4;have H1:=hid h1U;have H2:=hid h2U;have HB:=hid hBU;have HU:=hid hU;have HER:=hid her;have HNR:=hid hNR;clear d3 d5 d6 d7 d8 d9 d10 d11 d12 e0 e1 e2;clear h1 h2 h1U h2U hBU hO hrg hrgU hrl er her hU hNR ha hb hc hok hu hy hi hl0 hC2
 by_cases hh:yM W A=true
 · have hres:storeT W T i=({ W with words:=W.words.set A.toNat y },{ T with undo:=.put A.toNat ((W.words[A.toNat]?).getD 0) :: T.undo },false):=by unfold storeT;rw[←hA,if_pos hh,hreg]
   rw[hres];rw[hh]at HME
   have hA1:∃ N:Nat,A=(N:Int)∧N<W.words.length:=by
    unfold yM at hh;simp only[Bool.and_eq_true,decide_eq_true_eq]at hh;exact⟨A.toNat,by omega,by omega⟩
   obtain⟨N,rfl,hN⟩:=hA1;obtain⟨wg,cap,z,rfl,hcap,hwg,hz,hcell,hfz,hlw,_⟩:=hW0.setW N hN;have hwm:=hW0.many;obtain⟨e0,_,_⟩:=hW0.cells;rw[Int.toNat_natCast,hz,Option.getD_some];obtain⟨NW,hNW⟩:∃ M,M=W.words.length:=⟨_,rfl⟩
   have hN2:N<NW:=by rw[hNW];exact hN
   rw[←hNW]at hcap hwm e0;have HN:=hid hN;have HNW:=hid hNW;clear hres hh hia hA hNW hz hW0 hfz hreg hN;go_enter Tryz.func185,Tryz.ntmps185;go_wp2_with fail;rw[←HU.out];refine HME.out.mono ?_;rintro e w2 ⟨rfl,hb2⟩;obtain⟨W3,hW3⟩:∃ W3,W3=w2.alloc (.cells #[.int .i64 (N:Int)] 2):=⟨_,rfl⟩
   have q1:Below w2.heap.size w2 W3:=by rw[hW3];exact ze _ _
   have q2:W3.heap[w2.heap.size]? = some (.cells #[.int .i64 (N:Int)] 2 (0,0)):=by rw[hW3];exact (MapKept.heap_alloc _ _).1
   have q3:W3.heap.size=w2.heap.size+1:=by rw[hW3];simp
   have hz2:=hb2.size;have hb3:Below U.heap.size U W3:=hb2.trans (q1.mono hz2);have c2':=(hb3.cell (p:=⟨w.heap.size,0,none⟩) (by dsimp only;omega)).trans c2;rw[hW3]at c2';have HW3:=hid hW3;have HB3:=hid hb3;have HC5:=hid q2;clear hb2 q1 q2 hb3 hW3 c2;go_wp2_with fail;rw[←HW3.out]at c2' ⊢;have c5:=zh HC5.out 0 _ rfl;have i2:=(HB3.out.cell (p:=⟨w.heap.size+1,2,none⟩) (by dsimp only;omega)).trans i2;have d4:=(HB3.out.cell (p:=⟨p,4,none⟩) (by dsimp only;omega)).trans d4;have d0:=(HB3.out.cell (p:=⟨p,0,none⟩) (by dsimp only;omega)).trans d0;have e0:=(HB3.out.cell (p:=⟨b,0,none⟩) (by dsimp only;omega)).trans e0;have hcell:=(HB3.out.cell (p:=⟨wg,N,none⟩) hwg).trans hcell;have s0:=(HB3.out.cell (p:=⟨rg,a,none⟩) (by dsimp only;omega)).trans s0;clear i0 i1 i3 i4 i5;refine yO (S:=zk (W3.heap.size) W3) (fun j=>decide (11≤j)) (by kernel_rfl) (zk.drew _ _) (fun hSw=>?_);refine lG 0 (.pointer (some ⟨p,0,none⟩)) hSw (fun W hW=>?_) ?_
   · have c2':=hW.cell (by dsimp only;omega) c2'
     first|(go_simp;done)|rfl
   (try simp only[nS]);refine lH 1 (.pointer (some ⟨p,0,none⟩)) hSw ?_;(try simp only[nS]);refine lH 2 (.pointer (some ⟨p,0,none⟩)) hSw ?_;(try simp only[nS]);refine lG 3 (.pointer (some ⟨b,0,none⟩)) hSw (fun W hW=>?_) ?_
   · have d0:=hW.cell (by dsimp only;omega) d0
     first|(go_simp;done)|rfl
   (try simp only[nS]);refine lH 4 (.pointer (some ⟨b,0,none⟩)) hSw ?_;(try simp only[nS]);refine lH 5 (.pointer (some ⟨b,0,none⟩)) hSw ?_;(try simp only[nS]);refine lG 6 (.slice (some ⟨wg,0,none⟩) NW cap) hSw (fun W hW=>?_) ?_
   · have e0:=hW.cell (by dsimp only;omega) e0
     first|(go_simp;done)|rfl
   (try simp only[nS]);refine lG 7 (.int .i64 (N:Int)) hSw (fun W hW=>?_) ?_
   · have c5:=hW.cell (by dsimp only;omega) c5
     first|(go_simp;done)|rfl
   (try simp only[nS]);refine lH 8 (.pointer (some ⟨wg,N,none⟩)) hSw ?_;(try simp only[nS]);refine lG 9 (.int .i64 z) hSw (fun W hW=>?_) ?_
   · have hcell:=hW.cell (by dsimp only;omega) hcell
     first|(go_simp;done)|rfl
   (try simp only[nS]);refine lR 10 (fun J hK=>?_);clear hSw;go_simp;have hq3:=(MapKept.heap_alloc W3.drew (.cells #[.int .i64 0] 2)).1;refine hK.out _ _ (zk.of (ze W3 (.cells #[.int .i64 0] 2)).drew) (fun hSw=>?_);clear hK J;(try simp only[nS]);refine yP (rs:=[11]) (by kernel_rfl) (by simp) (by rfl) ?_;refine oR 11 (fun J hK=>?_);go_simp;refine hK.out _ _ ?_;clear hK J;(try simp only[nS]);refine wpAny_done (by kernel_rfl) ?_ _;obtain⟨W4,hW4⟩:∃ W4,W4=(W3.alloc (.cells #[.int .i64 z] 2)).drew:=⟨_,rfl⟩
   have hb4:Below W3.heap.size W3 W4:=by rw[hW4];exact (ze _ _).drew
   have hc7:W4.heap[w2.heap.size+1]? = some (.cells #[.int .i64 z] 2 (0,0)):=by rw[hW4,←q3];exact (MapKept.heap_alloc _ _).1
   have hz4:W4.heap.size=w2.heap.size+2:=by rw[hW4];simp[q3]
   rw[←hW4];have hb4U:Below U.heap.size U W4:=HB3.out.trans (hb4.mono (by omega));have H14:=hid (H1.out.keeps (But.of (ls:=[]) (hb4U.drew)) (.refl _ _) (by simp) (by simp));have H24:=hid (H2.out.keeps (But.of (ls:=[]) (hb4U.drew)) (.refl _ _) (by simp))
   have hUN:qx ow W4.drew j p (.put N z) (.func (.func 212) #[] #[.pointer (some ⟨w2.heap.size+1,0,none⟩),.pointer (some ⟨w.heap.size,0,none⟩),.pointer (some ⟨w2.heap.size,0,none⟩)]):=
    ⟨w2.heap.size+1,w.heap.size,w2.heap.size,rfl,by omega,hc7,(hb4U.block _ (by omega)).trans HC2.out,(hb4.block _ (by omega)).trans HC5.out,HL0.out _ (by omega),HL0.out _ (by omega),HL0.out _ (by omega)⟩
   obtain⟨v',w5,hr,⟨uq,uc,hv'⟩,g0,f0,hz5,ow',he,h1e,h2e,hbe,hb5⟩:=Z0 ow W4.drew b j p n g W T (.slice (some ⟨wg,0,none⟩) W.words.length cap) rs us ts ws _ (.put N z) H14.out H24.out hUN rfl HUU.out;subst hv';have d9:W4.cell? ⟨p,9,none⟩ = some us:=H24.out.cells.2.2.2.2.2.2.2.1;have c2w:=(hb4.cell (p:=⟨w.heap.size,0,none⟩) (by dsimp only;omega)).trans c2'
   have hs5:zn (fun k=>k=p∨k=w.heap.size) W4 w5:=by
    rintro k (rfl|rfl)
    · exact hb5.block _ (by show _<W4.heap.size;omega) (by rw[H2.out.lab];simp)
    · exact hb5.block _ (by show _<W4.heap.size;omega) (by rw[HL0.out _ (Nat.le_refl _)];simp)
   have HS5:=hid hs5;have HR:=hid hr;have H1E:=hid h1e;have H2E:=hid h2e;have HBE:=hid hbe;have HE:=hid he;have HZ4:=hid hz4;have HHI:=hid hb4;have HC4:=hid hc7;have e3:=Y2;have hlp4:p<W4.heap.size:=by omega
   have hlw4:w.heap.size<W4.heap.size:=by omega
   obtain⟨us0,hus0⟩:∃ u0,u0=us:=⟨_,rfl⟩
   clear hW4 hb4 hc7 hz4 hb4U hUN hr h1e h2e hbe he hb5 hs5 q3 hSw;go_wp2_with fail;refine yO (S:=zn (fun k=>k=p∨k=w.heap.size) W4) (fun j=>decide (8≤j)) (by kernel_rfl) (zn.drew _ _) (fun hSw=>?_);refine lG 0 (.pointer (some ⟨p,0,none⟩)) hSw (fun W hW=>?_) ?_
   · have c2w:=hW.cell (by dsimp only;omega) c2w
     first|(go_simp;done)|rfl
   (try simp only[nS]);refine lG 1 (.pointer (some ⟨p,0,none⟩)) hSw (fun W hW=>?_) ?_
   · have c2w:=hW.cell (by dsimp only;omega) c2w
     first|(go_simp;done)|rfl
   (try simp only[nS]);refine lH 2 (.pointer (some ⟨p,0,none⟩)) hSw ?_;(try simp only[nS]);refine lH 3 (.pointer (some ⟨p,9,none⟩)) hSw ?_;(try simp only[nS]);refine lG 4 us hSw (fun W hW=>?_) ?_
   · have d9:=hW.cell (by dsimp only;omega) d9
     first|(go_simp;done)|rfl
   (try simp only[nS]);refine lH 5 (.func (.func 212) #[] #[.pointer (some ⟨w2.heap.size+1,0,none⟩),.pointer (some ⟨w.heap.size,0,none⟩),.pointer (some ⟨w2.heap.size,0,none⟩)]) hSw ?_;(try simp only[nS]);refine lR 6 (fun J hK=>?_);clear hSw;go_simp;refine hK.out _ _ (fun k hk=>(Below.heap_alloc W4.drew _ k (by show _<W4.heap.size;rcases hk with rfl|rfl <;> omega))) (fun hSw=>?_);clear hK J;(try simp only[nS]);refine lR 7 (fun J hK=>?_);clear hSw;refine Lib.wp_append_run _ _ _ _ _ rfl _ _ rfl rfl _ w5 HR.out ?_;refine hK.out _ _ (HS5.out) (fun hSw=>?_);clear hK J;(try simp only[nS]);refine yP (rs:=[8]) (by kernel_rfl) (by simp) (by rfl) ?_;refine oR 8 (fun J hK=>?_);go_simp;refine hK.out _ _ ?_;clear hK J;(try simp only[nS]);refine oR 9 (fun J hK=>?_);go_simp;refine hK.out _ _ ?_;clear hK J;(try simp only[nS]);refine oR 10 (fun J hK=>?_);go_simp;refine hK.out _ _ ?_;clear hK J;(try simp only[nS]);refine wpAny_done (by kernel_rfl) ?_ _;obtain⟨W6,hW6⟩:∃ W6,W6=w5.setCell ⟨p,9,none⟩ (.slice uq (T.undo.length+1) uc):=⟨_,rfl⟩
   have H1E6:=hid (show WAt ow' W6 b W n _ by rw[hW6];exact H1E.out);have H2E6:=hid (show TAt ow' W6 b j p g { T with undo:=.put N z :: T.undo } rs _ ts ws by rw[hW6];exact H2E.out);have hbe6:But ow [12+8*j,10+8*j] W4.drew W6:=by rw[hW6];exact HBE.out
   rw[←hW6];have hs6:∀ k,k<W4.heap.size→(ow k=15+8*j∨ow k=2∨ow k=1∨ow k=11+8*j)→W6.heap[k]? = W4.heap[k]?:=fun k hk h=>hbe6.block k hk (by simp;omega)
   have hzz:W4.heap.size=w2.heap.size+2:=HZ4.out;have hw34:W3.heap.size=w2.heap.size+1:=by rw[HW3.out];simp
   have mv:∀ k off u,k<W3.heap.size→(ow k=15+8*j∨ow k=2∨ow k=1∨ow k=11+8*j)→W3.cell? ⟨k,off,none⟩ = some u→W6.cell? ⟨k,off,none⟩ = some u:=fun k off u hk h hc=>by
    rw[←hc];simp only[World.cell?,hs6 k (by omega) h,HHI.out.block k hk]
   obtain⟨rg',er',hrg',hrl'⟩:=H2.out.regs
   have hrgl:ow rg=11+8*j:=by
    rw[HER.out]at er';cases er';exact hrl'
   have i2:=mv _ _ _ (by omega) (.inl (HL0.out _ (by omega))) i2;have c5:=mv _ _ _ (by omega) (.inl (HL0.out _ (by omega))) c5;have e0:=mv _ _ _ (by omega) (.inr (.inr (.inl H1.out.lab))) e0;have s0:=mv _ _ _ (by omega) (.inr (.inr (.inr hrgl))) s0;have hwl:ow wg=2:=H1.out.labr wg rfl;have hcell:=mv _ _ _ (by omega) (.inr (.inl hwl)) hcell
   have fz:W6.frozen? ⟨wg,N,none⟩ = false:=by
    obtain⟨wg2,cap2,z2,e2,_,_,_,_,q,_,_⟩:=H1E6.out.setW N HN.out;cases e2;exact q
   have c26:W6.cell? ⟨w.heap.size,0,none⟩ = some (.pointer (some ⟨p,0,none⟩)):=mv _ _ _ (by omega) (.inl (HL0.out _ (by omega))) c2';obtain⟨d0',d3',d4',_,_,_,_,_,_,_,_⟩:=H2E6.out.cells;rw[HER.out]at d4';have d4'':W6.cell? ⟨p,4,none⟩ = some (.slice (some ⟨rg,0,none⟩) NR NR):=by rw[HNR.out];exact d4'
   have hz6:W4.heap.size≤W6.heap.size:=hbe6.size;have HK6:=hid (show Kp ow j w W6 from ((Kp.of (HB.out.trans (HB3.out.mono (by omega)))).trans (.refl _ _) (Kp.of (HHI.out.drew.mono (by omega)) |>.trans (.refl _ _) (hbe6.kp (j:=j) (by intro l hl;simp at hl;unfold Mine;omega)))));have HEX6:=hid (show Ext ow ow' w from fun k hk=>HE.out k (by show _<W4.heap.size;omega));clear hW6 hbe6 hs6 mv hrg' hrl' er' hrgl d4' d4 d0 c2' d9 c2w g0 f0 hSw e3;go_wp2_with fail;refine yO (S:=zk (W6.heap.size) W6) (fun j=>decide (16≤j)) (by kernel_rfl) (zk.drew _ _) (fun hSw=>?_);refine lG 0 (.pointer (some ⟨p,0,none⟩)) hSw (fun W hW=>?_) ?_
   · have c26:=hW.cell (by dsimp only;omega) c26
     first|(go_simp;done)|rfl
   (try simp only[nS]);refine lH 1 (.pointer (some ⟨p,0,none⟩)) hSw ?_;(try simp only[nS]);refine lH 2 (.pointer (some ⟨p,0,none⟩)) hSw ?_;(try simp only[nS]);refine lG 3 (.pointer (some ⟨b,0,none⟩)) hSw (fun W hW=>?_) ?_
   · have d0':=hW.cell (by dsimp only;omega) d0'
     first|(go_simp;done)|rfl
   (try simp only[nS]);refine lH 4 (.pointer (some ⟨b,0,none⟩)) hSw ?_;(try simp only[nS]);refine lH 5 (.pointer (some ⟨b,0,none⟩)) hSw ?_;(try simp only[nS]);refine lG 6 (.slice (some ⟨wg,0,none⟩) NW cap) hSw (fun W hW=>?_) ?_
   · have e0:=hW.cell (by dsimp only;omega) e0
     first|(go_simp;done)|rfl
   (try simp only[nS]);refine lG 7 (.int .i64 (N:Int)) hSw (fun W hW=>?_) ?_
   · have c5:=hW.cell (by dsimp only;omega) c5
     first|(go_simp;done)|rfl
   (try simp only[nS]);refine lG 8 (.pointer (some ⟨p,0,none⟩)) hSw (fun W hW=>?_) ?_
   · have c26:=hW.cell (by dsimp only;omega) c26
     first|(go_simp;done)|rfl
   (try simp only[nS]);refine lH 9 (.pointer (some ⟨p,0,none⟩)) hSw ?_;(try simp only[nS]);refine lH 10 (.pointer (some ⟨p,4,none⟩)) hSw ?_;(try simp only[nS]);refine lG 11 (.slice (some ⟨rg,0,none⟩) NR NR) hSw (fun W hW=>?_) ?_
   · have d4'':=hW.cell (by dsimp only;omega) d4''
     first|(go_simp;done)|rfl
   (try simp only[nS]);refine lH 12 (.pointer (some ⟨w.heap.size+1,2,none⟩)) hSw ?_;(try simp only[nS]);refine lG 13 (.int .i64 (a:Int)) hSw (fun W hW=>?_) ?_
   · have i2:=hW.cell (by dsimp only;omega) i2
     first|(go_simp;done)|rfl
   (try simp only[nS]);refine lH 14 (.pointer (some ⟨rg,a,none⟩)) hSw ?_;(try simp only[nS]);refine lG 15 (.int .i64 y) hSw (fun W hW=>?_) ?_
   · have s0:=hW.cell (by dsimp only;omega) s0
     first|(go_simp;done)|rfl
   (try simp only[nS]);refine yP (rs:=[16]) (by kernel_rfl) (by simp) (by rfl) ?_;refine oR 16 (fun J hK=>?_);go_simp;refine hK.out _ _ ?_;clear hK J;(try simp only[nS]);refine oR 17 (fun J hK=>?_);go_simp;refine hK.out _ _ ?_;clear hK J;(try simp only[nS]);refine wpAny_done (by kernel_rfl) ?_ _;go_wp2_with fail;go_ret;exact zN.after HK6.out HEX6.out (Wx H1E6.out H2E6.out HN.out rfl y rfl)
 · have hres:storeT W T i=yN W T 8:=by unfold storeT;rw[←hA,if_neg hh]
   rw[hres];have hh2:yM W A=false:=by simpa using hh
   rw[hh2]at HME;clear hres hh hh2 hia hA hW0 hreg;go_enter Tryz.func185,Tryz.ntmps185;go_wp2_with fail;rw[←HU.out];refine HME.out.mono ?_;rintro e w2 ⟨rfl,hb2⟩;obtain⟨W3,hW3⟩:∃ W3,W3=w2.alloc (.cells #[.int .i64 A] 2):=⟨_,rfl⟩
   have q1:Below w2.heap.size w2 W3:=by rw[hW3];exact ze _ _
   have q2:W3.heap[w2.heap.size]? = some (.cells #[.int .i64 A] 2 (0,0)):=by rw[hW3];exact (MapKept.heap_alloc _ _).1
   have q3:W3.heap.size=w2.heap.size+1:=by rw[hW3];simp
   have hz2:=hb2.size;have hb3:Below U.heap.size U W3:=hb2.trans (q1.mono hz2);have c2':=(hb3.cell (p:=⟨w.heap.size,0,none⟩) (by dsimp only;omega)).trans c2;rw[hW3]at c2';have HB3:=hid hb3;have HW3:=hid hW3;clear hb2 q1 q2 q3 hb3 hW3 c2 d0 d4 i0 i1 i2 i3 i4 i5 s0;go_wp2_with fail;rw[←HW3.out];refine (HFA.out W3 HB3.out).mono ?_;rintro e w3 hE;obtain⟨rfl,hR⟩:=(show e = .returned (.bool true)∧zN ow b j p g n (yN W T 8) W3 e w3 from⟨hE.1,hE⟩)
   have HR:=hid hR;clear hE hR;go_wp2_with fail;go_ret;exact ((HR.out.from HB3.out).from HB.out)
theorem Z7 (ow:Nat→Nat) (w:World) (b j p n:Nat) (g:Gr) (W:WS) (T:TS) (v rs us ts ws:Value) (k o:Int) (a bb:Nat) (cc x:Int) (h1:WAt ow w b W n v) (h2:TAt ow w b j p g T rs us ts ws) (ha:a<T.regs.length) (hb:bb<T.regs.length) (hc:cc<0∨cc.toNat<T.regs.length) (hok:UOk T.undo T.since W.words.length) (hu:T.undo.length≤1048576) :
 Calls Tryz.prog 185 #[.pointer (some ⟨p,0,none⟩),.agg #[.int .u8 k,.int .u8 o,.int .i64 (a:Int),.int .i64 (bb:Int),.int .i64 cc,.int .i64 x]] w (zN ow b j p g n (storeT W T ⟨k,o,(a:Int),(bb:Int),cc,x⟩) w):=by
 have he:Ext ow (fun k=>if k<w.heap.size then ow k else 15+8*j) w:=fun k hk=>by simp[hk]
 exact (Wi _ w b j p n g W T v rs us ts ws k o a bb cc x (h1.keeps (But.of (ls:=[]) (Below.refl _ _)) he (by simp) (by simp)) (h2.keeps (But.of (ls:=[]) (Below.refl _ _)) he (by simp)) (fun k hk=>by simp;omega) ha hb hc hok hu).mono fun _ _ h=>h.relab he
theorem z2i (ow:Nat→Nat) (w:World) (b j p n:Nat) (g:Gr) (W:WS) (T:TS) (v rs us ts ws:Value) (k o:Int) (a bb cc x:Int) (h1:WAt ow w b W n v) (h2:TAt ow w b j p g T rs us ts ws) (hl0:∀ k,w.heap.size≤k→ow k=15+8*j) (hu:T.undo.length≤1048576) :
 Calls Tryz.prog 189 #[.pointer (some ⟨p,0,none⟩),.agg #[.int .u8 k,.int .u8 o,.int .i64 a,.int .i64 bb,.int .i64 cc,.int .i64 x]] w (zN ow b j p g n (W,{ T with inside:=true,since:=W.words.length,undo:=.cut :: T.undo },false) w):=by
 obtain⟨U,hU⟩:∃ U,U=(w.alloc (.cells #[.pointer (some ⟨p,0,none⟩)] 83)).alloc (.cells #[.int .u8 k,.int .u8 o,.int .i64 a,.int .i64 bb,.int .i64 cc,.int .i64 x] 159):=⟨_,rfl⟩
 have hBU:Below w.heap.size w U:=by rw[hU];exact (ze w _).trans ((ze _ _).mono (by simp))
 have hzU:U.heap.size=w.heap.size+2:=by rw[hU];simp
 have hC2:U.heap[w.heap.size]? = some (.cells #[.pointer (some ⟨p,0,none⟩)] 83 (0,0)):=by rw[hU];exact (Below.heap_alloc _ _ _ (by simp)).trans (MapKept.heap_alloc w _).1
 have h1U:=h1.keeps (But.of (ls:=[]) hBU) (.refl _ _) (by simp) (by simp);have h2U:=h2.keeps (But.of (ls:=[]) hBU) (.refl _ _) (by simp);have hlp:p<w.heap.size:=z8 h2.box;have hlb:b<w.heap.size:=z8 h1.box;obtain⟨vp,vc,rfl⟩:=h1.slice;have hwm:=h1.many;obtain⟨NW,hNW⟩:∃ M,M=W.words.length:=⟨_,rfl⟩
 have c2:U.cell? ⟨w.heap.size,0,none⟩ = some (.pointer (some ⟨p,0,none⟩)):=zh hC2 0 _ rfl;have d7:=h2U.cells.2.2.2.2.2.1;have f7:=Lib.frozen_of_heap h2U.box 7;obtain⟨U1,hU1⟩:∃ V,V=U.setCell ⟨p,7,none⟩ (.bool true):=⟨_,rfl⟩
 have hb1:But ow [10+8*j] U U1:=by rw[hU1];exact xX _ _ h2U.lab
 have h11:=h1U.keeps hb1 (.refl _ _) (by simp;omega) (by simp;omega);have h21:TAt ow U1 b j p g { T with inside:=true } rs us ts ws:=h2U.rebox hb1 (by rw[hU1];exact vo 7 _ h2U.box rfl) rfl rfl rfl rfl;have c21:U1.heap[w.heap.size]? = some (.cells #[.pointer (some ⟨p,0,none⟩)] 83 (0,0)):=(hb1.block _ (by omega) (by rw[hl0 _ (Nat.le_refl _)];simp)).trans hC2;have k2:U1.cell? ⟨w.heap.size,0,none⟩ = some (.pointer (some ⟨p,0,none⟩)):=zh c21 0 _ rfl;have k0:=h21.cells.1;have k8:=h21.cells.2.2.2.2.2.2.1;have f8:=Lib.frozen_of_heap h21.box 8;have e0:=h11.cells.1;have hz1:U1.heap.size=w.heap.size+2:=by rw[hU1];simpa[World.setCell]using hzU
 obtain⟨U2,hU2⟩:∃ V,V=(U1.setCell ⟨p,8,none⟩ (.int .i64 (W.words.length:Int))).drew:=⟨_,rfl⟩
 have hb2:But ow [10+8*j] U1 U2:=by rw[hU2];exact (xX _ _ h21.lab).drew
 have h12:=h11.keeps hb2 (.refl _ _) (by simp;omega) (by simp;omega);have h22:TAt ow U2 b j p g { T with inside:=true,since:=W.words.length } rs us ts ws:=h21.rebox hb2 (by rw[hU2];exact vo 8 _ h21.box rfl) rfl rfl rfl rfl;have c22:U2.heap[w.heap.size]? = some (.cells #[.pointer (some ⟨p,0,none⟩)] 83 (0,0)):=(hb2.block _ (by omega) (by rw[hl0 _ (Nat.le_refl _)];simp)).trans c21;have l2:U2.cell? ⟨w.heap.size,0,none⟩ = some (.pointer (some ⟨p,0,none⟩)):=zh c22 0 _ rfl;have d9:=h22.cells.2.2.2.2.2.2.2.1;have hz2:U2.heap.size=w.heap.size+2:=by rw[hU2];simpa[World.setCell,World.drew]using hz1
 have hd2:But ow [] U2 U2.drew:=But.of (below_drewN' (Below.refl _ _));have hUN:qx ow U2.drew j p .cut (.func (.func 214) #[] #[.pointer (some ⟨w.heap.size,0,none⟩)]):=⟨w.heap.size,rfl,c22,hl0 _ (Nat.le_refl _)⟩
 obtain⟨v',w5,hr,⟨uq,uc,hv'⟩,g0,f0,hz5,ow',he,h1e,h2e,hbe,hb5⟩:=Z0 ow U2.drew b j p n g W { T with inside:=true,since:=W.words.length } _ rs us ts ws _ .cut (h12.keeps hd2 (.refl _ _) (by simp) (by simp)) (h22.keeps hd2 (.refl _ _) (by simp)) hUN rfl hu;subst hv'
 have hs5:zn (fun k=>k=p∨k=w.heap.size) U2 w5:=by
  rintro k (rfl|rfl)
  · exact hb5.block _ (by show _<U2.heap.size;omega) (by rw[h2.lab];simp)
  · exact hb5.block _ (by show _<U2.heap.size;omega) (by rw[hl0 _ (Nat.le_refl _)];simp)
 have hkp:Kp ow j w (w5.setCell ⟨p,9,none⟩ (.slice uq (T.undo.length+1) uc)):=
  ((((Kp.of hBU).trans (.refl _ _) (hb1.kp (by intro l hl;simp at hl;unfold Mine;omega))).trans (.refl _ _) (hb2.kp (by intro l hl;simp at hl;unfold Mine;omega)))).drew.trans (.refl _ _) (hbe.kp (by intro l hl;simp at hl;unfold Mine;omega))
 have hex:Ext ow ow' w:=fun k hk=>he k (by show _<U2.heap.size;omega)
 rw[hU]at c2 d7 f7;have HS5:=hid hs5;have HR:=hid hr;have H1E:=hid h1e;have H2E:=hid h2e;have HKP:=hid hkp;have HEX:=hid hex;have HU:=hid hU;have HU1:=hid hU1;have HU2:=hid hU2;have hlp2:p<U2.heap.size:=by omega
 have hlw2:w.heap.size<U2.heap.size:=by omega
 have HZ2:=hid hz2;have hmf:=Ym;have e3:=Y2;rw[←hNW]at e0 hwm;have HNW:=hid hNW;have HU0:=hid hu;clear h1 h2 hBU hzU hC2 h1U h2U hU hU1 hU2 hb1 h11 h21 c21 hb2 h12 h22 c22 hd2 hUN hr he h1e h2e hbe hb5 hs5 hkp hex hl0 hu hz2 hNW;go_enter Tryz.func189,Tryz.ntmps189;go_wp2_with fail
 have hU1':(((w.setCell ⟨p,7,none⟩ (.bool true)).alloc (.cells #[.pointer (some ⟨p,0,none⟩)] 83)).alloc (.cells #[.int .u8 k,.int .u8 o,.int .i64 a,.int .i64 bb,.int .i64 cc,.int .i64 x] 159))=U1:=by
  rw[HU1.out,HU.out];go_simp
 rw[hU1'];clear hU1';have HD9:=hid d9;have HL2:=hid l2;have HG0:=hid g0;have HF0:=hid f0;clear c2 d7 f7 d9 l2 g0 f0;refine yO (S:=zk (w.heap.size+2) U1) (fun j=>decide (9≤j)) (by kernel_rfl) (zk.drew _ _) (fun hSw=>?_);refine lG 0 (.pointer (some ⟨p,0,none⟩)) hSw (fun W hW=>?_) ?_
 · have k2:=hW.cell (by dsimp only;omega) k2
   first|(go_simp;done)|rfl
 (try simp only[nS]);refine lG 1 (.pointer (some ⟨p,0,none⟩)) hSw (fun W hW=>?_) ?_
 · have k2:=hW.cell (by dsimp only;omega) k2
   first|(go_simp;done)|rfl
 (try simp only[nS]);refine lH 2 (.pointer (some ⟨p,0,none⟩)) hSw ?_;(try simp only[nS]);refine lH 3 (.pointer (some ⟨p,0,none⟩)) hSw ?_;(try simp only[nS]);refine lG 4 (.pointer (some ⟨b,0,none⟩)) hSw (fun W hW=>?_) ?_
 · have k0:=hW.cell (by dsimp only;omega) k0
   first|(go_simp;done)|rfl
 (try simp only[nS]);refine lH 5 (.pointer (some ⟨b,0,none⟩)) hSw ?_;(try simp only[nS]);refine lH 6 (.pointer (some ⟨b,0,none⟩)) hSw ?_;(try simp only[nS]);refine lG 7 (.slice vp NW vc) hSw (fun W hW=>?_) ?_
 · have e0:=hW.cell (by dsimp only;omega) e0
   first|(go_simp;done)|rfl
 (try simp only[nS]);refine lH 8 (.int .i64 (NW:Int)) hSw ?_;(try simp only[nS]);refine yP (rs:=[9]) (by kernel_rfl) (by simp) (by rfl) ?_;refine oR 9 (fun J hK=>?_);go_simp;refine hK.out _ _ ?_;clear hK J;(try simp only[nS]);refine oR 10 (fun J hK=>?_);go_simp;refine hK.out _ _ ?_;clear hK J;(try simp only[nS]);refine oR 11 (fun J hK=>?_);go_simp;refine hK.out _ _ ?_;clear hK J;(try simp only[nS]);refine wpAny_done (by kernel_rfl) ?_ _;rw[show (NW:Int)=(W.words.length:Int)by rw[HNW.out],←HU2.out];have d9:=HD9.out;have l2:=HL2.out;have g0:=HG0.out;have f0:=HF0.out;clear k2 k0 k8 f8 e0 hz1 hSw;go_wp2_with fail;refine yO (S:=zn (fun k=>k=p∨k=w.heap.size) U2) (fun j=>decide (8≤j)) (by kernel_rfl) (zn.drew _ _) (fun hSw=>?_);refine lG 0 (.pointer (some ⟨p,0,none⟩)) hSw (fun W hW=>?_) ?_
 · have l2:=hW.cell (by dsimp only;omega) l2
   first|(go_simp;done)|rfl
 (try simp only[nS]);refine lG 1 (.pointer (some ⟨p,0,none⟩)) hSw (fun W hW=>?_) ?_
 · have l2:=hW.cell (by dsimp only;omega) l2
   first|(go_simp;done)|rfl
 (try simp only[nS]);refine lH 2 (.pointer (some ⟨p,0,none⟩)) hSw ?_;(try simp only[nS]);refine lH 3 (.pointer (some ⟨p,9,none⟩)) hSw ?_;(try simp only[nS]);refine lG 4 us hSw (fun W hW=>?_) ?_
 · have d9:=hW.cell (by dsimp only;omega) d9
   first|(go_simp;done)|rfl
 (try simp only[nS]);refine lH 5 (.func (.func 214) #[] #[.pointer (some ⟨w.heap.size,0,none⟩)]) hSw ?_;(try simp only[nS]);refine lR 6 (fun J hK=>?_);clear hSw;go_simp;refine hK.out _ _ (fun k hk=>(Below.heap_alloc U2.drew _ k (by show _<U2.heap.size;rcases hk with rfl|rfl <;> omega))) (fun hSw=>?_);clear hK J;(try simp only[nS]);refine lR 7 (fun J hK=>?_);clear hSw;refine Lib.wp_append_run _ _ _ _ _ rfl _ _ rfl rfl _ w5 HR.out ?_;refine hK.out _ _ (HS5.out) (fun hSw=>?_);clear hK J;(try simp only[nS]);refine yP (rs:=[8]) (by kernel_rfl) (by simp) (by rfl) ?_;refine oR 8 (fun J hK=>?_);go_simp;refine hK.out _ _ ?_;clear hK J;(try simp only[nS]);refine oR 9 (fun J hK=>?_);go_simp;refine hK.out _ _ ?_;clear hK J;(try simp only[nS]);refine oR 10 (fun J hK=>?_);go_simp;refine hK.out _ _ ?_;clear hK J;(try simp only[nS]);refine wpAny_done (by kernel_rfl) ?_ _;go_wp2_with fail;go_ret;exact⟨rfl,ow',_,rs,_,ts,ws,HEX.out,H1E.out,H2E.out,HKP.out⟩
theorem z2j (ow:Nat→Nat) (w:World) (b j p n:Nat) (g:Gr) (W:WS) (T:TS) (v rs us ts ws:Value) (k o:Int) (a bb cc x:Int) (h1:WAt ow w b W n v) (h2:TAt ow w b j p g T rs us ts ws) (hu:T.undo.length≤1048576) :
 Calls Tryz.prog 189 #[.pointer (some ⟨p,0,none⟩),.agg #[.int .u8 k,.int .u8 o,.int .i64 a,.int .i64 bb,.int .i64 cc,.int .i64 x]] w (zN ow b j p g n (W,{ T with inside:=true,since:=W.words.length,undo:=.cut :: T.undo },false) w):=by
 have he:Ext ow (fun k=>if k<w.heap.size then ow k else 15+8*j) w:=fun k hk=>by simp[hk]
 exact (z2i _ w b j p n g W T v rs us ts ws k o a bb cc x (h1.keeps (But.of (ls:=[]) (Below.refl _ _)) he (by simp) (by simp)) (h2.keeps (But.of (ls:=[]) (Below.refl _ _)) he (by simp)) (fun k hk=>by simp;omega) hu).mono fun _ _ h=>h.relab he
theorem z0d (ow:Nat→Nat) (w:World) (b j p n:Nat) (g:Gr) (W:WS) (T:TS) (v rs us ts ws:Value) (k o:Int) (a bb cc x:Int) (h1:WAt ow w b W n v) (h2:TAt ow w b j p g T rs us ts ws) :
 Calls Tryz.prog 190 #[.pointer (some ⟨p,0,none⟩),.agg #[.int .u8 k,.int .u8 o,.int .i64 a,.int .i64 bb,.int .i64 cc,.int .i64 x]] w (zN ow b j p g n (W,{ T with inside:=false,undo:=[] },true) w):=by
 obtain⟨U,hU⟩:∃ U,U=w.alloc (.cells #[.int .u8 k,.int .u8 o,.int .i64 a,.int .i64 bb,.int .i64 cc,.int .i64 x] 159):=⟨_,rfl⟩
 have hBU:Below w.heap.size w U:=by rw[hU];exact ze w _
 have h1U:=h1.keeps (But.of (ls:=[]) hBU) (.refl _ _) (by simp) (by simp);have h2U:=h2.keeps (But.of (ls:=[]) hBU) (.refl _ _) (by simp);have hlp:p<w.heap.size:=z8 h2.box;have hzU:U.heap.size=w.heap.size+1:=by rw[hU];simp
 have d7:=h2.cells.2.2.2.2.2.1;have f7:=Lib.frozen_of_heap h2.box 7;have d9:=h2.cells.2.2.2.2.2.2.2.1;have f9:=Lib.frozen_of_heap h2.box 9;have hs1:But ow [10+8*j] U ((U.setCell ⟨p,7,none⟩ (.bool false)).setCell ⟨p,9,none⟩ (.slice none 0 0)):=zw (xX _ _ h2.lab) (xX _ _ h2.lab)
 have hbx:((U.setCell ⟨p,7,none⟩ (.bool false)).setCell ⟨p,9,none⟩ (.slice none 0 0)).heap[p]? = some (.cells (wL b g rs { T with inside:=false,undo:=[] } (.slice none 0 0) ts ws) 124 (0,0)):=by
  rw[heap_setCell_same _ p 9 _ _ _ (vo 7 _ h2U.box rfl)]
  rfl
 have hno:∀ k,k≠0→10+k+8*j ∉ [10+8*j]:=fun k h0 q=>by simp at q;omega
 have hfin:zN ow b j p g n (W,{ T with inside:=false,undo:=[] },true) w (.returned (.bool true)) ((U.setCell ⟨p,7,none⟩ (.bool false)).setCell ⟨p,9,none⟩ (.slice none 0 0)):=
  ⟨rfl,ow,v,rs,.slice none 0 0,ts,ws,.refl _ _,h1U.keeps hs1 (.refl _ _) (by simp;omega) (by simp;omega),⟨hbx,h2.lab,qh h2U.regs hs1 (.refl _ _) (hno 1 (by omega)),⟨[],World.ownsRow_nil _ _ _ _,rfl,fun k hk=>by cases hk⟩,h2U.told.keeps hs1 (.refl _ _) (hno 3 (by omega)),h2U.waiting.keeps hs1 (.refl _ _) (hno 4 (by omega))⟩,(Kp.of hBU).trans (.refl _ _) (hs1.kp (by intro l hl;simp at hl;unfold Mine;omega))⟩
 have hV:(((w.setCell ⟨p,7,none⟩ (.bool false)).setCell ⟨p,9,none⟩ (.slice none 0 0)).alloc (.cells #[.int .u8 k,.int .u8 o,.int .i64 a,.int .i64 bb,.int .i64 cc,.int .i64 x] 159))=(U.setCell ⟨p,7,none⟩ (.bool false)).setCell ⟨p,9,none⟩ (.slice none 0 0):=by
  rw[hU];go_simp
 have HV:=hid hV;have HFIN:=hid hfin;clear h1 h2 h1U h2U hBU hU hs1 hbx hno hfin hV hzU;go_enter Tryz.func190,Tryz.ntmps190;go_wp2_with fail;go_ret;rw[HV.out];exact HFIN.out
