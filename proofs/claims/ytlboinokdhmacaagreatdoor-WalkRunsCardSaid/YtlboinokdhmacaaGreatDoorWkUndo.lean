import Derived.Test.YtlboinokdhmacaaGreatDoorRlInsE
namespace Go.Proofs.YtlboinokdhmacaaGreatDoor
set_option maxHeartbeats 64000000
set_option maxRecDepth 1000000
open Lib(hid)
open Go.RowKit
attribute [local go_sem ↓] zL zJ
theorem zh {w:World} {b:Nat} {cs:Array Value} {T:TypeId} {fr:Nat × Nat} (h:w.heap[b]? = some (.cells cs T fr)) (i:Nat) (u:Value) (hi:cs[i]? = some u):w.cell? ⟨b,i,none⟩ = some u:=by rw[Lib.cell_of_heap h];exact hi
theorem TAt.cells {ow:Nat→Nat} {w:World} {b j p:Nat} {g:Gr} {T:TS} {rs us ts ws:Value} (h:TAt ow w b j p g T rs us ts ws) :
 w.cell? ⟨p,0,none⟩ = some (.pointer (some ⟨b,0,none⟩))∧w.cell? ⟨p,3,none⟩ = some g.bv∧w.cell? ⟨p,4,none⟩ = some rs∧w.cell? ⟨p,5,none⟩ = some (.int .i64 (T.bi:Int))∧w.cell? ⟨p,6,none⟩ = some (.int .i64 (T.ii:Int))∧w.cell? ⟨p,7,none⟩ = some (.bool T.inside)∧w.cell? ⟨p,8,none⟩ = some (.int .i64 (T.since:Int)) ∧
 w.cell? ⟨p,9,none⟩ = some us∧w.cell? ⟨p,10,none⟩ = some ts∧w.cell? ⟨p,11,none⟩ = some ws∧w.cell? ⟨p,12,none⟩ = some (.int .u8 T.fin):=
 ⟨zh h.box 0 _ rfl,zh h.box 3 _ rfl,zh h.box 4 _ rfl,zh h.box 5 _ rfl,zh h.box 6 _ rfl,zh h.box 7 _ rfl,zh h.box 8 _ rfl,zh h.box 9 _ rfl,zh h.box 10 _ rfl,zh h.box 11 _ rfl,zh h.box 12 _ rfl⟩
theorem WAt.cells {ow:Nat→Nat} {w:World} {b n:Nat} {W:WS} {v:Value} (h:WAt ow w b W n v):w.cell? ⟨b,0,none⟩ = some v∧w.cell? ⟨b,1,none⟩ = some (.int .i64 (n:Int))∧w.cell? ⟨b,2,none⟩ = some (.bool W.strange):=
 ⟨zh h.box 0 _ rfl,zh h.box 1 _ rfl,zh h.box 2 _ rfl⟩
theorem zT {w:World} {g:Nat} {l:List Int} {T:TypeId} {fr:Nat × Nat} (h:w.heap[g]? = some (.cells (wds l).toArray T fr)) (i:Nat) (x:Int) (hi:l[i]? = some x):w.cell? ⟨g,i,none⟩ = some (.int .i64 x):=by
 rw[Lib.cell_of_heap h];simp[wds,hi]
theorem TAt.setR {ow:Nat→Nat} {w:World} {b j p:Nat} {g:Gr} {T:TS} {rs us ts ws:Value} (h:TAt ow w b j p g T rs us ts ws) (rg a:Nat) (hrg:rs = .slice (some ⟨rg,0,none⟩) T.regs.length T.regs.length) (x:Int) :
 TAt ow (w.setCell ⟨rg,a,none⟩ (.int .i64 x)) b j p g (T.setR (a:Int) x) rs us ts ws∧But ow [11+8*j] w (w.setCell ⟨rg,a,none⟩ (.int .i64 x)):=by
 obtain⟨rg',r1,r2,r3⟩:=h.regs;have e:rg'=rg:=by rw[r1]at hrg;cases hrg;rfl
 subst e;have hb:But ow [11+8*j] w (w.setCell ⟨rg',a,none⟩ (.int .i64 x)):=(But.of (Below.refl _ _)).set (p:=⟨rg',a,none⟩) (by simp[r3]) _;have hno:∀ k,k≠1→10+k+8*j ∉ [11+8*j]:=fun k hk q=>by have:=List.mem_singleton.1 q;omega
 refine⟨⟨?_,h.lab,⟨rg', ?_, ?_,r3⟩,qF h.undo hb (.refl _ _) (hno 2 (by omega)) (hno 5 (by omega)),h.told.keeps hb (.refl _ _) (hno 3 (by omega)),h.waiting.keeps hb (.refl _ _) (hno 4 (by omega))⟩,hb⟩
 · exact (hb.block p (z8 h.box) (by rw[h.lab];exact hno 0 (by omega))).trans h.box
 · rw[r1];simp[TS.setR]
 · rw[heap_setCell_same w _ a _ _ _ r2]
   simp[TS.setR,wds,List.map_set]
theorem below_drewN' {B:Nat} {a w:World} (h:Below B a w):Below B a w.drew:=⟨h.os,h.tape,h.output,h.size,h.block⟩
def zN (ow:Nat→Nat) (b j p:Nat) (g:Gr) (n:Nat) (r:WS × TS × Bool) (w:World) (e:Ending) (w':World):Prop:=
 e = .returned (.bool r.2.2)∧∃ ow' v rs us ts ws,Ext ow ow' w∧WAt ow' w' b r.1 n v∧TAt ow' w' b j p g r.2.1 rs us ts ws∧Kp ow j w w'
theorem jq {ow:Nat→Nat} {w u u':World} {b j p n a rg:Nat} {g:Gr} {W:WS} {T:TS} {v rs us ts ws:Value} (hb:Below w.heap.size w u) (h1:WAt ow u b W n v) (h2:TAt ow u b j p g T rs us ts ws) (hrg:rs = .slice (some ⟨rg,0,none⟩) T.regs.length T.regs.length) (x:Int) (hu:u'=(u.setCell ⟨rg,a,none⟩ (.int .i64 x)).drew) :
 zN ow b j p g n (W,T.setR (a:Int) x,false) w (.returned (.bool false)) u':=by
 subst hu;obtain⟨h3,h4⟩:=h2.setR rg a hrg x;have hd:But ow [] (u.setCell ⟨rg,a,none⟩ (.int .i64 x)) (u.setCell ⟨rg,a,none⟩ (.int .i64 x)).drew:=But.of (below_drewN' (Below.refl _ _));refine⟨rfl,ow,v,rs,us,ts,ws,.refl _ _, ?_,h3.keeps hd (.refl _ _) (by simp), ?_⟩
 · exact (h1.keeps h4 (.refl _ _) (by simp;omega) (by simp;omega)).keeps hd (.refl _ _) (by simp) (by simp)
 · exact ((Kp.of hb).trans (.refl _ _) (h4.kp (by intro l hl;rw[List.mem_singleton.1 hl];right;right;omega))).drew
theorem YK (ow:Nat→Nat) (w:World) (b j p n:Nat) (g:Gr) (W:WS) (T:TS) (v rs us ts ws:Value) (k o:Int) (a:Nat) (bb cc x:Int) (h1:WAt ow w b W n v) (h2:TAt ow w b j p g T rs us ts ws) (ha:a<T.regs.length) :
 Calls Tryz.prog 178 #[.pointer (some ⟨p,0,none⟩),.agg #[.int .u8 k,.int .u8 o,.int .i64 (a:Int),.int .i64 bb,.int .i64 cc,.int .i64 x]] w (zN ow b j p g n (W,T.setR (a:Int) x,false) w):=by
 obtain⟨rg,er,hrg,hrl⟩:=h2.regs;have her:=er;obtain⟨U,hU⟩:∃ U,U=w.alloc (.cells #[.int .u8 k,.int .u8 o,.int .i64 (a:Int),.int .i64 bb,.int .i64 cc,.int .i64 x] 159):=⟨_,rfl⟩
 have hBU:Below w.heap.size w U:=by rw[hU];exact ze w _
 have hzU:U.heap.size=w.heap.size+1:=by rw[hU];simp
 have hO:U.heap[w.heap.size]? = some (.cells #[.int .u8 k,.int .u8 o,.int .i64 (a:Int),.int .i64 bb,.int .i64 cc,.int .i64 x] 159 (0,0)):=by rw[hU];exact (MapKept.heap_alloc _ _).1
 have h1U:=h1.keeps (But.of (ls:=[]) hBU) (.refl _ _) (by simp) (by simp);have h2U:=h2.keeps (But.of (ls:=[]) hBU) (.refl _ _) (by simp);have hlp:p<w.heap.size:=z8 h2.box;have hlb:b<w.heap.size:=z8 h1.box;have hlr:rg<w.heap.size:=z8 hrg;have hrgU:=(hBU.block rg hlr).trans hrg;obtain⟨d0,d3,d4,d5,d6,d7,d8,d9,d10,d11,d12⟩:=h2U.cells;obtain⟨e0,e1,e2⟩:=h1U.cells;rw[her]at d4;obtain⟨i0,i1,i2,i3,i4,i5⟩:=zl hO;have fr:=fun (q:Nat)=>Lib.frozen_of_heap hrgU q
 obtain⟨NR,hNR⟩:∃ N,N=T.regs.length:=⟨_,rfl⟩
 have hax:a<NR:=by rw[hNR];exact ha
 have f0:=fr a;obtain⟨y,hy⟩:∃ y,T.regs[a]? = some y:=⟨_,List.getElem?_eq_getElem ha⟩
 have s0:=zT hrgU a y hy;have H1:=hid h1U;have H2:=hid h2U;have HB:=hid hBU;have HU:=hid hU;have HER:=hid her;rw[←hNR]at d4;have HNR:=hid hNR;clear d3 d5 d6 d7 d8 d9 d10 d11 d12 e0 e1 e2;clear h1 h2 h1U h2U hBU hO hrg hrgU hrl er her hU hNR ha fr hy;go_enter Tryz.func178,Tryz.ntmps178;go_wp2_with fail;rw[←HU.out];refine yO (S:=zk (w.heap.size+1) U) (fun j=>decide (8≤j)) (by kernel_rfl) (zk.drew _ _) (fun hSw=>?_);refine lH 0 (.pointer (some ⟨p,0,none⟩)) hSw ?_;(try simp only[nS]);refine lH 1 (.pointer (some ⟨p,0,none⟩)) hSw ?_;(try simp only[nS]);refine lH 2 (.pointer (some ⟨p,4,none⟩)) hSw ?_;(try simp only[nS]);refine lG 3 (.slice (some ⟨rg,0,none⟩) NR NR) hSw (fun W hW=>?_) ?_
 · have d4:=hW.cell (by dsimp only;omega) d4
   first|(go_simp;done)|rfl
 (try simp only[nS]);refine lH 4 (.pointer (some ⟨w.heap.size,2,none⟩)) hSw ?_;(try simp only[nS]);refine lG 5 (.int .i64 (a:Int)) hSw (fun W hW=>?_) ?_
 · have i2:=hW.cell (by dsimp only;omega) i2
   first|(go_simp;done)|rfl
 (try simp only[nS]);refine lH 6 (.pointer (some ⟨w.heap.size,5,none⟩)) hSw ?_;(try simp only[nS]);refine lG 7 (.int .i64 x) hSw (fun W hW=>?_) ?_
 · have i5:=hW.cell (by dsimp only;omega) i5
   first|(go_simp;done)|rfl
 (try simp only[nS]);refine yP (rs:=[8]) (by kernel_rfl) (by simp) (by rfl) ?_;refine oR 8 (fun J hK=>?_);go_simp;refine hK.out _ _ ?_;clear hK J;(try simp only[nS]);refine oR 9 (fun J hK=>?_);go_simp;refine hK.out _ _ ?_;clear hK J;(try simp only[nS]);refine wpAny_done (by kernel_rfl) ?_ _;go_wp2_with fail;go_ret;exact jq HB.out H1.out H2.out HER.out x rfl
theorem ji (x:Int):IntKind.wrap .i64 x=wrap64 x:=IntWalk.i64_left x
theorem vB {T:TS} {a:Nat} {y:Int} (h:T.regs[a]? = some y):T.reg (a:Int)=y:=by
 unfold TS.reg;rw[Int.toNat_natCast,h];rfl
theorem Q6 (ow:Nat→Nat) (w:World) (b j p n:Nat) (g:Gr) (W:WS) (T:TS) (v rs us ts ws:Value) (k o:Int) (a bb:Nat) (cc x:Int) (h1:WAt ow w b W n v) (h2:TAt ow w b j p g T rs us ts ws) (ha:a<T.regs.length) (hb:bb<T.regs.length) :
 Calls Tryz.prog 179 #[.pointer (some ⟨p,0,none⟩),.agg #[.int .u8 k,.int .u8 o,.int .i64 (a:Int),.int .i64 (bb:Int),.int .i64 cc,.int .i64 x]] w (zN ow b j p g n (W,T.setR (a:Int) (T.reg (bb:Int)),false) w):=by
 obtain⟨rg,er,hrg,hrl⟩:=h2.regs;have her:=er;obtain⟨U,hU⟩:∃ U,U=w.alloc (.cells #[.int .u8 k,.int .u8 o,.int .i64 (a:Int),.int .i64 (bb:Int),.int .i64 cc,.int .i64 x] 159):=⟨_,rfl⟩
 have hBU:Below w.heap.size w U:=by rw[hU];exact ze w _
 have hzU:U.heap.size=w.heap.size+1:=by rw[hU];simp
 have hO:U.heap[w.heap.size]? = some (.cells #[.int .u8 k,.int .u8 o,.int .i64 (a:Int),.int .i64 (bb:Int),.int .i64 cc,.int .i64 x] 159 (0,0)):=by rw[hU];exact (MapKept.heap_alloc _ _).1
 have h1U:=h1.keeps (But.of (ls:=[]) hBU) (.refl _ _) (by simp) (by simp);have h2U:=h2.keeps (But.of (ls:=[]) hBU) (.refl _ _) (by simp);have hlp:p<w.heap.size:=z8 h2.box;have hlb:b<w.heap.size:=z8 h1.box;have hlr:rg<w.heap.size:=z8 hrg;have hrgU:=(hBU.block rg hlr).trans hrg;obtain⟨d0,d3,d4,d5,d6,d7,d8,d9,d10,d11,d12⟩:=h2U.cells;obtain⟨e0,e1,e2⟩:=h1U.cells;rw[her]at d4;obtain⟨i0,i1,i2,i3,i4,i5⟩:=zl hO;have fr:=fun (q:Nat)=>Lib.frozen_of_heap hrgU q
 obtain⟨NR,hNR⟩:∃ N,N=T.regs.length:=⟨_,rfl⟩
 have hax:a<NR:=by rw[hNR];exact ha
 have hbx:bb<NR:=by rw[hNR];exact hb
 have f0:=fr a;obtain⟨y,hy⟩:∃ y,T.regs[a]? = some y:=⟨_,List.getElem?_eq_getElem ha⟩
 obtain⟨z,hz⟩:∃ z,T.regs[bb]? = some z:=⟨_,List.getElem?_eq_getElem hb⟩
 have s0:=zT hrgU a y hy;have s1:=zT hrgU bb z hz;rw[vB hz];have H1:=hid h1U;have H2:=hid h2U;have HB:=hid hBU;have HU:=hid hU;have HER:=hid her;rw[←hNR]at d4;have HNR:=hid hNR;clear d3 d5 d6 d7 d8 d9 d10 d11 d12 e0 e1 e2;clear h1 h2 h1U h2U hBU hO hrg hrgU hrl er her hU hNR ha hb fr hy hz;go_enter Tryz.func179,Tryz.ntmps179;go_wp2_with fail;rw[←HU.out];refine yO (S:=zk (w.heap.size+1) U) (fun j=>decide (14≤j)) (by kernel_rfl) (zk.drew _ _) (fun hSw=>?_);refine lH 0 (.pointer (some ⟨p,0,none⟩)) hSw ?_;(try simp only[nS]);refine lH 1 (.pointer (some ⟨p,0,none⟩)) hSw ?_;(try simp only[nS]);refine lH 2 (.pointer (some ⟨p,4,none⟩)) hSw ?_;(try simp only[nS]);refine lG 3 (.slice (some ⟨rg,0,none⟩) NR NR) hSw (fun W hW=>?_) ?_
 · have d4:=hW.cell (by dsimp only;omega) d4
   first|(go_simp;done)|rfl
 (try simp only[nS]);refine lH 4 (.pointer (some ⟨w.heap.size,2,none⟩)) hSw ?_;(try simp only[nS]);refine lG 5 (.int .i64 (a:Int)) hSw (fun W hW=>?_) ?_
 · have i2:=hW.cell (by dsimp only;omega) i2
   first|(go_simp;done)|rfl
 (try simp only[nS]);refine lH 6 (.pointer (some ⟨p,0,none⟩)) hSw ?_;(try simp only[nS]);refine lH 7 (.pointer (some ⟨p,0,none⟩)) hSw ?_;(try simp only[nS]);refine lH 8 (.pointer (some ⟨p,4,none⟩)) hSw ?_;(try simp only[nS]);refine lG 9 (.slice (some ⟨rg,0,none⟩) NR NR) hSw (fun W hW=>?_) ?_
 · have d4:=hW.cell (by dsimp only;omega) d4
   first|(go_simp;done)|rfl
 (try simp only[nS]);refine lH 10 (.pointer (some ⟨w.heap.size,3,none⟩)) hSw ?_;(try simp only[nS]);refine lG 11 (.int .i64 (bb:Int)) hSw (fun W hW=>?_) ?_
 · have i3:=hW.cell (by dsimp only;omega) i3
   first|(go_simp;done)|rfl
 (try simp only[nS]);refine lH 12 (.pointer (some ⟨rg,bb,none⟩)) hSw ?_;(try simp only[nS]);refine lG 13 (.int .i64 z) hSw (fun W hW=>?_) ?_
 · have s1:=hW.cell (by dsimp only;omega) s1
   first|(go_simp;done)|rfl
 (try simp only[nS]);refine yP (rs:=[14]) (by kernel_rfl) (by simp) (by rfl) ?_;refine oR 14 (fun J hK=>?_);go_simp;refine hK.out _ _ ?_;clear hK J;(try simp only[nS]);refine oR 15 (fun J hK=>?_);go_simp;refine hK.out _ _ ?_;clear hK J;(try simp only[nS]);refine wpAny_done (by kernel_rfl) ?_ _;go_wp2_with fail;go_ret;exact jq HB.out H1.out H2.out HER.out z rfl
theorem Yu (ow:Nat→Nat) (w:World) (b n:Nat) (W:WS) (v:Value) (a:Int) (h1:WAt ow w b W n v) :
 Calls Tryz.prog 236 #[.pointer (some ⟨b,0,none⟩),.int .i64 a] w fun e w'=>e = .returned (.bool (yM W a))∧w=w':=by
 obtain⟨e0,e1,e2⟩:=h1.cells
 obtain⟨vp,vc,ev⟩:∃ p c,v = .slice p W.words.length c:=by
  rcases h1.row.2 with ⟨rfl,h0⟩|⟨q,cap,cur,rfl,_⟩
  · exact⟨none,0,by rw[h0]⟩
  · exact⟨_,_,rfl⟩
 have hr:yM W a=(decide (0<a) && decide (a<(W.words.length:Int))):=rfl;obtain⟨N,hN⟩:∃ N,N=W.words.length:=⟨_,rfl⟩
 rw[ev,←hN]at e0;rw[←hN]at hr;have HN:=hid hN;have hm:=h1.many;rw[←hN]at hm;clear h1 ev hN
 by_cases h:0<a
 · by_cases h2:a<(N:Int)
   · rw[decide_eq_true h,decide_eq_true h2]at hr
     have HR:=hid hr;clear hr;go_enter Tryz.func236,Tryz.ntmps236;go_wp2_with fail;go_ret;exact⟨by rw[HR.out];rfl,rfl⟩
   · rw[decide_eq_true h,decide_eq_false h2]at hr
     have HR:=hid hr;clear hr;go_enter Tryz.func236,Tryz.ntmps236;go_wp2_with fail;go_ret;exact⟨by rw[HR.out];rfl,rfl⟩
 · rw[decide_eq_false h]at hr
   have HR:=hid hr;clear hr;go_enter Tryz.func236,Tryz.ntmps236;go_wp2_with fail;go_ret;exact⟨by rw[HR.out];rfl,rfl⟩
def qy (ow:Nat→Nat) (j:Nat) (W:WS) (T:TS) (i:In) (w:World) (e:Ending) (w':World):Prop:=e = .returned (.tuple #[.int .i64 (yf T i),.bool (yM W (yf T i))])∧Below w.heap.size w w'
theorem Qg (ow:Nat→Nat) (w:World) (b j p n:Nat) (g:Gr) (W:WS) (T:TS) (v rs us ts ws:Value) (k o:Int) (aa:Int) (bb:Nat) (cc:Int) (hcc:cc<0) (x:Int) (h1:WAt ow w b W n v) (h2:TAt ow w b j p g T rs us ts ws) (hb:bb<T.regs.length) :
 Calls Tryz.prog 211 #[.pointer (some ⟨p,0,none⟩),.agg #[.int .u8 k,.int .u8 o,.int .i64 aa,.int .i64 (bb:Int),.int .i64 cc,.int .i64 x]] w (qy ow j W T ⟨k,o,aa,(bb:Int),cc,x⟩ w):=by
 obtain⟨rg,er,hrg,hrl⟩:=h2.regs;have her:=er;obtain⟨U,hU⟩:∃ U,U=w.alloc (.cells #[.int .u8 k,.int .u8 o,.int .i64 aa,.int .i64 (bb:Int),.int .i64 cc,.int .i64 x] 159):=⟨_,rfl⟩
 have hBU:Below w.heap.size w U:=by rw[hU];exact ze w _
 have hzU:U.heap.size=w.heap.size+1:=by rw[hU];simp
 have hO:U.heap[w.heap.size]? = some (.cells #[.int .u8 k,.int .u8 o,.int .i64 aa,.int .i64 (bb:Int),.int .i64 cc,.int .i64 x] 159 (0,0)):=by rw[hU];exact (MapKept.heap_alloc _ _).1
 have h1U:=h1.keeps (But.of (ls:=[]) hBU) (.refl _ _) (by simp) (by simp);have h2U:=h2.keeps (But.of (ls:=[]) hBU) (.refl _ _) (by simp);have hlp:p<w.heap.size:=z8 h2.box;have hlb:b<w.heap.size:=z8 h1.box;have hlr:rg<w.heap.size:=z8 hrg;have hrgU:=(hBU.block rg hlr).trans hrg;obtain⟨d0,d3,d4,d5,d6,d7,d8,d9,d10,d11,d12⟩:=h2U.cells;obtain⟨e0,e1,e2⟩:=h1U.cells;rw[her]at d4;obtain⟨i0,i1,i2,i3,i4,i5⟩:=zl hO;have fr:=fun (q:Nat)=>Lib.frozen_of_heap hrgU q
 obtain⟨NR,hNR⟩:∃ N,N=T.regs.length:=⟨_,rfl⟩
 have hbx:bb<NR:=by rw[hNR];exact hb
 obtain⟨z,hz⟩:∃ z,T.regs[bb]? = some z:=⟨_,List.getElem?_eq_getElem hb⟩
 have s1:=zT hrgU bb z hz;obtain⟨A,hA⟩:∃ A,A=yf T ⟨k,o,aa,(bb:Int),cc,x⟩:=⟨_,rfl⟩
 have hA2:=hA;unfold yf at hA2;simp only[vB hz]at hA2;rw[if_neg (by omega)]at hA2;unfold qy;rw[←hA];have HHA:=hid (fun (u:World) (hu:WAt ow u b W n v)=>Yu ow u b n W v A hu);rw[hA2]at HHA;have wr:=ji;have HA2:=hid hA2;have H1:=hid h1U;have H2:=hid h2U;have HB:=hid hBU;have HU:=hid hU;have HER:=hid her;rw[←hNR]at d4;have HNR:=hid hNR;clear d3 d5 d6 d7 d8 d9 d10 d11 d12 e0 e1 e2;clear hA2;clear h1 h2 h1U h2U hBU hO hrg hrgU hrl er her hU hNR hb fr hz hA;go_enter Tryz.func211,Tryz.ntmps211;go_wp2_with fail;rw[←HU.out];refine wp_region_held_drew (S:=zk (w.heap.size+1) U) (by kernel_rfl) (zk.drew _ _) (fun hSw=>?_);refine tH 0 (.pointer (some ⟨p,0,none⟩)) hSw ?_;(try simp only[nS]);refine tH 1 (.pointer (some ⟨p,0,none⟩)) hSw ?_;(try simp only[nS]);refine tH 2 (.pointer (some ⟨p,4,none⟩)) hSw ?_;(try simp only[nS]);refine tG 3 (.slice (some ⟨rg,0,none⟩) NR NR) hSw (fun W hW=>?_) ?_
 · have d4:=hW.cell (by dsimp only;omega) d4
   first|(go_simp;done)|rfl
 (try simp only[nS]);refine tH 4 (.pointer (some ⟨w.heap.size,3,none⟩)) hSw ?_;(try simp only[nS]);refine tG 5 (.int .i64 (bb:Int)) hSw (fun W hW=>?_) ?_
 · have i3:=hW.cell (by dsimp only;omega) i3
   first|(go_simp;done)|rfl
 (try simp only[nS]);refine tH 6 (.pointer (some ⟨rg,bb,none⟩)) hSw ?_;(try simp only[nS]);refine tG 7 (.int .i64 z) hSw (fun W hW=>?_) ?_
 · have s1:=hW.cell (by dsimp only;omega) s1
   first|(go_simp;done)|rfl
 (try simp only[nS]);refine tH 8 (.pointer (some ⟨w.heap.size,5,none⟩)) hSw ?_;(try simp only[nS]);refine tG 9 (.int .i64 x) hSw (fun W hW=>?_) ?_
 · have i5:=hW.cell (by dsimp only;omega) i5
   first|(go_simp;done)|rfl
 (try simp only[nS]);refine tH 10 (.int .i64 (wrap64 (z+x))) hSw ?_;(try simp only[nS]);refine tH 11 (.int .i64 (wrap64 (z+x))) hSw ?_;(try simp only[nS]);refine wpAnyH_done (by kernel_rfl) ?_ _;go_wp2_with fail;refine (HHA.out U.drew (H1.out.keeps (But.of (ls:=[]) (below_drewN' (Below.refl _ _))) (.refl _ _) (by simp) (by simp))).mono ?_;rintro e w2 ⟨rfl,rfl⟩;go_wp2_with fail
 go_ret2
 exact⟨by rw[HA2.out];rfl,below_drewN' (by rw[HU.out];exact ze w _)⟩
theorem Qf (ow:Nat→Nat) (w:World) (b j p n:Nat) (g:Gr) (W:WS) (T:TS) (v rs us ts ws:Value) (k o:Int) (aa:Int) (bb:Nat) (cc:Nat) (x:Int) (h1:WAt ow w b W n v) (h2:TAt ow w b j p g T rs us ts ws) (hb:bb<T.regs.length) (hc:cc<T.regs.length) :
 Calls Tryz.prog 211 #[.pointer (some ⟨p,0,none⟩),.agg #[.int .u8 k,.int .u8 o,.int .i64 aa,.int .i64 (bb:Int),.int .i64 (cc:Int),.int .i64 x]] w (qy ow j W T ⟨k,o,aa,(bb:Int),(cc:Int),x⟩ w):=by
 obtain⟨rg,er,hrg,hrl⟩:=h2.regs;have her:=er;obtain⟨U,hU⟩:∃ U,U=w.alloc (.cells #[.int .u8 k,.int .u8 o,.int .i64 aa,.int .i64 (bb:Int),.int .i64 (cc:Int),.int .i64 x] 159):=⟨_,rfl⟩
 have hBU:Below w.heap.size w U:=by rw[hU];exact ze w _
 have hzU:U.heap.size=w.heap.size+1:=by rw[hU];simp
 have hO:U.heap[w.heap.size]? = some (.cells #[.int .u8 k,.int .u8 o,.int .i64 aa,.int .i64 (bb:Int),.int .i64 (cc:Int),.int .i64 x] 159 (0,0)):=by rw[hU];exact (MapKept.heap_alloc _ _).1
 have h1U:=h1.keeps (But.of (ls:=[]) hBU) (.refl _ _) (by simp) (by simp);have h2U:=h2.keeps (But.of (ls:=[]) hBU) (.refl _ _) (by simp);have hlp:p<w.heap.size:=z8 h2.box;have hlb:b<w.heap.size:=z8 h1.box;have hlr:rg<w.heap.size:=z8 hrg;have hrgU:=(hBU.block rg hlr).trans hrg;obtain⟨d0,d3,d4,d5,d6,d7,d8,d9,d10,d11,d12⟩:=h2U.cells;obtain⟨e0,e1,e2⟩:=h1U.cells;rw[her]at d4;obtain⟨i0,i1,i2,i3,i4,i5⟩:=zl hO;have fr:=fun (q:Nat)=>Lib.frozen_of_heap hrgU q
 obtain⟨NR,hNR⟩:∃ N,N=T.regs.length:=⟨_,rfl⟩
 have hbx:bb<NR:=by rw[hNR];exact hb
 obtain⟨z,hz⟩:∃ z,T.regs[bb]? = some z:=⟨_,List.getElem?_eq_getElem hb⟩
 have s1:=zT hrgU bb z hz;have hcx:cc<NR:=by rw[hNR];exact hc
 obtain⟨y,hy⟩:∃ y,T.regs[cc]? = some y:=⟨_,List.getElem?_eq_getElem hc⟩
 have s2:=zT hrgU cc y hy;obtain⟨A,hA⟩:∃ A,A=yf T ⟨k,o,aa,(bb:Int),(cc:Int),x⟩:=⟨_,rfl⟩
 have hA2:=hA;unfold yf at hA2;simp only[vB hz,vB hy]at hA2;rw[if_pos (by omega)]at hA2;unfold qy;rw[←hA];have HHA:=hid (fun (u:World) (hu:WAt ow u b W n v)=>Yu ow u b n W v A hu);rw[hA2]at HHA;have wr:=ji;have HA2:=hid hA2;have H1:=hid h1U;have H2:=hid h2U;have HB:=hid hBU;have HU:=hid hU;have HER:=hid her;rw[←hNR]at d4;have HNR:=hid hNR;clear d3 d5 d6 d7 d8 d9 d10 d11 d12 e0 e1 e2;clear hA2;clear h1 h2 h1U h2U hBU hO hrg hrgU hrl er her hU hNR hb fr hz hA hc hy;go_enter Tryz.func211,Tryz.ntmps211;go_wp2_with fail;rw[←HU.out];refine wp_region_held_drew (S:=zk (w.heap.size+1) U) (by kernel_rfl) (zk.drew _ _) (fun hSw=>?_);refine tH 0 (.pointer (some ⟨p,0,none⟩)) hSw ?_;(try simp only[nS]);refine tH 1 (.pointer (some ⟨p,0,none⟩)) hSw ?_;(try simp only[nS]);refine tH 2 (.pointer (some ⟨p,4,none⟩)) hSw ?_;(try simp only[nS]);refine tG 3 (.slice (some ⟨rg,0,none⟩) NR NR) hSw (fun W hW=>?_) ?_
 · have d4:=hW.cell (by dsimp only;omega) d4
   first|(go_simp;done)|rfl
 (try simp only[nS]);refine tH 4 (.pointer (some ⟨w.heap.size,3,none⟩)) hSw ?_;(try simp only[nS]);refine tG 5 (.int .i64 (bb:Int)) hSw (fun W hW=>?_) ?_
 · have i3:=hW.cell (by dsimp only;omega) i3
   first|(go_simp;done)|rfl
 (try simp only[nS]);refine tH 6 (.pointer (some ⟨rg,bb,none⟩)) hSw ?_;(try simp only[nS]);refine tG 7 (.int .i64 z) hSw (fun W hW=>?_) ?_
 · have s1:=hW.cell (by dsimp only;omega) s1
   first|(go_simp;done)|rfl
 (try simp only[nS]);refine tH 8 (.pointer (some ⟨w.heap.size,5,none⟩)) hSw ?_;(try simp only[nS]);refine tG 9 (.int .i64 x) hSw (fun W hW=>?_) ?_
 · have i5:=hW.cell (by dsimp only;omega) i5
   first|(go_simp;done)|rfl
 (try simp only[nS]);refine tH 10 (.int .i64 (wrap64 (z+x))) hSw ?_;(try simp only[nS]);refine tH 11 (.int .i64 (wrap64 (z+x))) hSw ?_;(try simp only[nS]);refine wpAnyH_done (by kernel_rfl) ?_ _;go_wp2_with fail;obtain⟨U2,hU2⟩:∃ U2,U2=U.drew:=⟨_,rfl⟩
 rw[←hU2];have i4:U2.cell? ⟨w.heap.size,4,none⟩ = some (.int .i64 (cc:Int)):=by rw[hU2];exact i4
 have d4:U2.cell? ⟨p,4,none⟩ = some (.slice (some ⟨rg,0,none⟩) NR NR):=by rw[hU2];exact d4
 have d0:U2.cell? ⟨p,0,none⟩ = some (.pointer (some ⟨b,0,none⟩)):=by rw[hU2];exact d0
 have s2:U2.cell? ⟨rg,cc,none⟩ = some (.int .i64 y):=by rw[hU2];exact s2
 have hz2:U2.heap.size=w.heap.size+1:=by rw[hU2];exact hzU
 have HU2:=hid hU2;clear hU2 i0 i1 i2 i3 i5 s1;refine wp_region_held_drew (S:=zk (w.heap.size+1) U2) (by kernel_rfl) (zk.drew _ _) (fun hSw=>?_);refine tH 0 (.int .i64 (wrap64 (z+x))) hSw ?_;(try simp only[nS]);refine tH 1 (.pointer (some ⟨p,0,none⟩)) hSw ?_;(try simp only[nS]);refine tH 2 (.pointer (some ⟨p,0,none⟩)) hSw ?_;(try simp only[nS]);refine tH 3 (.pointer (some ⟨p,4,none⟩)) hSw ?_;(try simp only[nS]);refine tG 4 (.slice (some ⟨rg,0,none⟩) NR NR) hSw (fun W hW=>?_) ?_
 · have d4:=hW.cell (by dsimp only;omega) d4
   first|(go_simp;done)|rfl
 (try simp only[nS]);refine tH 5 (.pointer (some ⟨w.heap.size,4,none⟩)) hSw ?_;(try simp only[nS]);refine tG 6 (.int .i64 (cc:Int)) hSw (fun W hW=>?_) ?_
 · have i4:=hW.cell (by dsimp only;omega) i4
   first|(go_simp;done)|rfl
 (try simp only[nS]);refine tH 7 (.pointer (some ⟨rg,cc,none⟩)) hSw ?_;(try simp only[nS]);refine tG 8 (.int .i64 y) hSw (fun W hW=>?_) ?_
 · have s2:=hW.cell (by dsimp only;omega) s2
   first|(go_simp;done)|rfl
 (try simp only[nS]);refine tH 9 (.int .i64 (wrap64 (wrap64 (z+x)+y))) hSw ?_;(try simp only[nS]);refine tH 10 (.int .i64 (wrap64 (wrap64 (z+x)+y))) hSw ?_;(try simp only[nS]);refine wpAnyH_done (by kernel_rfl) ?_ _;go_wp2_with fail;rw[HU2.out];refine (HHA.out U.drew.drew (H1.out.keeps (But.of (ls:=[]) (below_drewN' (below_drewN' (Below.refl _ _)))) (.refl _ _) (by simp) (by simp))).mono ?_;rintro e w2 ⟨rfl,rfl⟩;go_wp2_with fail
 go_ret2
 exact⟨by rw[HA2.out];rfl,below_drewN' (below_drewN' (by rw[HU.out];exact ze w _))⟩
theorem Wl (U:World) (b p wg N cap c7 c2 c5 a:Nat) (x y:Int) (h7:U.cell? ⟨c7,0,none⟩ = some (.int .i64 x)) (h2:U.cell? ⟨c2,0,none⟩ = some (.pointer (some ⟨p,0,none⟩))) (h5:U.cell? ⟨c5,0,none⟩ = some (.int .i64 (a:Int)))
 (d0:U.cell? ⟨p,0,none⟩ = some (.pointer (some ⟨b,0,none⟩))) (e0:U.cell? ⟨b,0,none⟩ = some (.slice (some ⟨wg,0,none⟩) N cap)) (ha:a<N) (hN:N≤65537) (s0:U.cell? ⟨wg,a,none⟩ = some (.int .i64 y)) (f0:U.frozen? ⟨wg,a,none⟩ = false)
 (hl7:c7<U.heap.size) (hl2:c2<U.heap.size) (hl5:c5<U.heap.size) (hlp:p<U.heap.size) (hlb:b<U.heap.size) :
 Calls Tryz.prog 212 #[.pointer (some ⟨c7,0,none⟩),.pointer (some ⟨c2,0,none⟩),.pointer (some ⟨c5,0,none⟩)] U fun e w'=>e = .returned (.tuple #[])∧w'=(U.setCell ⟨wg,a,none⟩ (.int .i64 x)).drew:=by
 go_enter Tryz.func212,Tryz.ntmps212;go_wp2_with fail;refine yO (S:=zk (U.heap.size) U) (fun j=>decide (9≤j)) (by kernel_rfl) (zk.drew _ _) (fun hSw=>?_);refine lG 0 (.pointer (some ⟨p,0,none⟩)) hSw (fun W hW=>?_) ?_
 · have h2:=hW.cell (by dsimp only;omega) h2
   first|(go_simp;done)|rfl
 (try simp only[nS]);refine lH 1 (.pointer (some ⟨p,0,none⟩)) hSw ?_;(try simp only[nS]);refine lH 2 (.pointer (some ⟨p,0,none⟩)) hSw ?_;(try simp only[nS]);refine lG 3 (.pointer (some ⟨b,0,none⟩)) hSw (fun W hW=>?_) ?_
 · have d0:=hW.cell (by dsimp only;omega) d0
   first|(go_simp;done)|rfl
 (try simp only[nS]);refine lH 4 (.pointer (some ⟨b,0,none⟩)) hSw ?_;(try simp only[nS]);refine lH 5 (.pointer (some ⟨b,0,none⟩)) hSw ?_;(try simp only[nS]);refine lG 6 (.slice (some ⟨wg,0,none⟩) N cap) hSw (fun W hW=>?_) ?_
 · have e0:=hW.cell (by dsimp only;omega) e0
   first|(go_simp;done)|rfl
 (try simp only[nS]);refine lG 7 (.int .i64 (a:Int)) hSw (fun W hW=>?_) ?_
 · have h5:=hW.cell (by dsimp only;omega) h5
   first|(go_simp;done)|rfl
 (try simp only[nS]);refine lG 8 (.int .i64 x) hSw (fun W hW=>?_) ?_
 · have h7:=hW.cell (by dsimp only;omega) h7
   first|(go_simp;done)|rfl
 (try simp only[nS]);refine yP (rs:=[9]) (by kernel_rfl) (by simp) (by rfl) ?_;refine oR 9 (fun J hK=>?_);go_simp;refine hK.out _ _ ?_;clear hK J;(try simp only[nS]);refine oR 10 (fun J hK=>?_);go_simp;refine hK.out _ _ ?_;clear hK J;(try simp only[nS]);refine wpAny_done (by kernel_rfl) ?_ _;go_wp2_with fail
 go_end0
 exact⟨rfl,rfl⟩
theorem z2l (U:World) (b p wg N cap c2 s:Nat) (uw:Value) (h2:U.cell? ⟨c2,0,none⟩ = some (.pointer (some ⟨p,0,none⟩)))
 (d0:U.cell? ⟨p,0,none⟩ = some (.pointer (some ⟨b,0,none⟩))) (e0:U.cell? ⟨b,0,none⟩ = some (.slice (some ⟨wg,0,none⟩) N cap)) (f0:U.frozen? ⟨b,0,none⟩ = false) (d8:U.cell? ⟨p,8,none⟩ = some (.int .i64 (s:Int))) (d11:U.cell? ⟨p,11,none⟩ = some uw) (f11:U.frozen? ⟨p,11,none⟩ = false) (hs:s≤N) (hN:N≤65537) (hc:N≤cap)
 (hl2:c2<U.heap.size) (hlp:p<U.heap.size) (hlb:b<U.heap.size) (hpb:p≠b) (hcb:c2≠b) :
 Calls Tryz.prog 214 #[.pointer (some ⟨c2,0,none⟩)] U fun e w'=>e = .returned (.tuple #[])∧w'=(U.setCell ⟨b,0,none⟩ (.slice (some ⟨wg,0,none⟩) s cap)).drew.setCell ⟨p,11,none⟩ (.slice none 0 0):=by
 go_enter Tryz.func214,Tryz.ntmps214;go_wp2_with fail;refine yO (S:=zk (U.heap.size) U) (fun j=>decide (16≤j)) (by kernel_rfl) (zk.drew _ _) (fun hSw=>?_);refine lG 0 (.pointer (some ⟨p,0,none⟩)) hSw (fun W hW=>?_) ?_
 · have h2:=hW.cell (by dsimp only;omega) h2
   first|(go_simp;done)|rfl
 (try simp only[nS]);refine lH 1 (.pointer (some ⟨p,0,none⟩)) hSw ?_;(try simp only[nS]);refine lH 2 (.pointer (some ⟨p,0,none⟩)) hSw ?_;(try simp only[nS]);refine lG 3 (.pointer (some ⟨b,0,none⟩)) hSw (fun W hW=>?_) ?_
 · have d0:=hW.cell (by dsimp only;omega) d0
   first|(go_simp;done)|rfl
 (try simp only[nS]);refine lG 4 (.pointer (some ⟨p,0,none⟩)) hSw (fun W hW=>?_) ?_
 · have h2:=hW.cell (by dsimp only;omega) h2
   first|(go_simp;done)|rfl
 (try simp only[nS]);refine lH 5 (.pointer (some ⟨p,0,none⟩)) hSw ?_;(try simp only[nS]);refine lH 6 (.pointer (some ⟨p,0,none⟩)) hSw ?_;(try simp only[nS]);refine lG 7 (.pointer (some ⟨b,0,none⟩)) hSw (fun W hW=>?_) ?_
 · have d0:=hW.cell (by dsimp only;omega) d0
   first|(go_simp;done)|rfl
 (try simp only[nS]);refine lH 8 (.pointer (some ⟨b,0,none⟩)) hSw ?_;(try simp only[nS]);refine lH 9 (.pointer (some ⟨b,0,none⟩)) hSw ?_;(try simp only[nS]);refine lG 10 (.slice (some ⟨wg,0,none⟩) N cap) hSw (fun W hW=>?_) ?_
 · have e0:=hW.cell (by dsimp only;omega) e0
   first|(go_simp;done)|rfl
 (try simp only[nS]);refine lG 11 (.pointer (some ⟨p,0,none⟩)) hSw (fun W hW=>?_) ?_
 · have h2:=hW.cell (by dsimp only;omega) h2
   first|(go_simp;done)|rfl
 (try simp only[nS]);refine lH 12 (.pointer (some ⟨p,0,none⟩)) hSw ?_;(try simp only[nS]);refine lH 13 (.pointer (some ⟨p,8,none⟩)) hSw ?_;(try simp only[nS]);refine lG 14 (.int .i64 (s:Int)) hSw (fun W hW=>?_) ?_
 · have d8:=hW.cell (by dsimp only;omega) d8
   first|(go_simp;done)|rfl
 (try simp only[nS]);refine lG 15 (.slice (some ⟨wg,0,none⟩) s cap) hSw (fun W hW=>?_) ?_
 · go_simp;exact fun h=>absurd h (by omega)
 (try simp only[nS]);refine yP (rs:=[16]) (by kernel_rfl) (by simp) (by rfl) ?_;refine oR 16 (fun J hK=>?_);go_simp;refine hK.out _ _ ?_;clear hK J;(try simp only[nS]);refine oR 17 (fun J hK=>?_);go_simp;refine hK.out _ _ ?_;clear hK J;(try simp only[nS]);refine oR 18 (fun J hK=>?_);go_simp;refine hK.out _ _ ?_;clear hK J;(try simp only[nS]);refine wpAny_done (by kernel_rfl) ?_ _;have hp2:((U.setCell ⟨b,0,none⟩ (.slice (some ⟨wg,0,none⟩) s cap)).drew).heap[p]? = U.heap[p]?:=Below.heap_setCell _ _ _ _ hpb;have hc2:((U.setCell ⟨b,0,none⟩ (.slice (some ⟨wg,0,none⟩) s cap)).drew).heap[c2]? = U.heap[c2]?:=Below.heap_setCell _ _ _ _ hcb;have h2':((U.setCell ⟨b,0,none⟩ (.slice (some ⟨wg,0,none⟩) s cap)).drew).cell? ⟨c2,0,none⟩ = some (.pointer (some ⟨p,0,none⟩)):=by rw[←h2];simp only[World.cell?,hc2]
 have d11':((U.setCell ⟨b,0,none⟩ (.slice (some ⟨wg,0,none⟩) s cap)).drew).cell? ⟨p,11,none⟩ = some uw:=by rw[←d11];simp only[World.cell?,hp2]
 have f11':((U.setCell ⟨b,0,none⟩ (.slice (some ⟨wg,0,none⟩) s cap)).drew).frozen? ⟨p,11,none⟩ = false:=by rw[←f11];simp only[World.frozen?,hp2]
 obtain⟨V,hV⟩:∃ V,V=(U.setCell ⟨b,0,none⟩ (.slice (some ⟨wg,0,none⟩) s cap)).drew:=⟨_,rfl⟩
 rw[←hV]at h2' d11' f11' ⊢;have HV:=hid hV;clear hV hp2 hc2 h2 d0 e0 d8 d11 f0 f11;go_wp2_with fail
 go_end0
 exact⟨rfl,by rw[HV.out]⟩
