import Derived.Test.YtlboinokdhmacaaGreatDoorRwAcc
namespace Go.Proofs.YtlboinokdhmacaaGreatDoor
set_option maxHeartbeats 64000000
set_option maxRecDepth 1000000
open Lib(hid)
open Go.RowKit
attribute [local go_sem ↓] zL zJ
theorem qdo_1 {ow:Nat→Nat} {w:World} {b:Nat} {wd:Int} {tv tw:Value} {W:WS} {n:Int} {v:Value} {tb o j:Nat} {T:RT} {rs ws os:Value} (h1:QW ow w b wd tv tw W n v) (h2:QT ow w tb o j T rs ws os) (hnew:∀ k,w.heap.size≤k→ow k=0) (op:Int) (aa:Nat) (ha:aa<T.regs.length) (bq:Int) (c:Int) (x:Int) (mark:Nat) :
 Calls Tryz.prog 197 #[.pointer (some ⟨b,0,none⟩),.pointer (some ⟨tb,o,none⟩),.agg #[.int .u8 1,.int .u8 op,.int .i64 (aa:Int),.int .i64 bq,.int .i64 c,.int .i64 x],.int .i64 (mark:Int)] w (QDo ow b wd tv tw n tb o j rs ws os (doR W T ⟨1,op,(aa:Int),bq,c,x⟩ mark) w):=by
 obtain⟨U,hU⟩:∃ U,U=w.alloc (.cells #[.int .u8 1,.int .u8 op,.int .i64 (aa:Int),.int .i64 bq,.int .i64 c,.int .i64 x] 159):=⟨_,rfl⟩
 have hBU:Below w.heap.size w U:=by rw[hU];exact ze w _
 have hO:U.heap[w.heap.size]? = some (.cells #[.int .u8 1,.int .u8 op,.int .i64 (aa:Int),.int .i64 bq,.int .i64 c,.int .i64 x] 159 (0,0)):=by rw[hU];exact (MapKept.heap_alloc _ _).1
 have h1U:=h1.keeps (But.of (ls:=[]) hBU) (.refl _ _) (by simp) (by simp);have h2U:=h2.keeps (But.of (ls:=[]) hBU) (.refl _ _) (by simp) (by simp) (by simp) (by simp);have H1U:=hid h1U;have H2U:=hid h2U;have HNW:=hid hnew;have HO:=hid hO;have HBU:=hid hBU;have HU:=hid hU;have HBB:=hid (But.of (ow:=ow) (ls:=[]) hBU);obtain⟨htb,-,-,d2,-,-,-⟩:=h2U.cells;obtain⟨rg,er,hrg,hrl⟩:=h2U.regs;have hrgl:=z8 hrg;have HER:=hid er;have HRG:=hid hrg;rw[er]at d2;obtain⟨NR,hNR⟩:∃ N,N=T.regs.length:=⟨_,rfl⟩
 rw[←hNR]at d2;obtain⟨i0,i1,i2,i3,i4,i5⟩:=zl hO;have hlx:=z8 hO;have HNR:=hid hNR;have HAA:=hid ha;have ha1:aa<NR:=by rw[hNR];exact ha
 clear h1 h2 hU hBU hO h1U h2U er hrg hrl hNR hnew ha;have c0:=i0;have c1:=i1;have c2:=i2;have c3:=i3;have c4:=i4;have c5:=i5;rw[HU.out]at i0 i1 i2 i3 i4 i5;go_enter Tryz.func197,Tryz.ntmps197;go_wp2_with fail;have HY:=hid (show doR W T ⟨1,op,(aa:Int),bq,c,x⟩ mark=(W,T.setR (aa:Int) x,(0:Int))from by simp[doR]);rw[←HU.out];obtain⟨w3,hw3⟩:∃ w3,w3=U:=⟨_,rfl⟩
 rw[←hw3];have hb3:Below U.heap.size U w3:=by rw[hw3];exact Below.refl _ _
 refine yJ 9 (by kernel_rfl) (by kernel_rfl) (fun w4 hw4=>?_);have hb4:Below U.heap.size U w4:=hb3.trans ((db hw4).mono hb3.size);have HB4:=hid (zw (zi (l:=[]) (m:=[1,2,10+8*j]) HBB.out (by simp)) (zi (l:=[]) (m:=[1,2,10+8*j]) (But.of hb4) (by simp)));have h14:=H1U.out.keeps (But.of (ls:=[]) hb4) (.refl _ _) (by simp) (by simp);have h24:=H2U.out.keeps (But.of (ls:=[]) hb4) (.refl _ _) (by simp) (by simp) (by simp) (by simp);have hx4:=(hb4.block w.heap.size hlx).trans HO.out;have hl4:=z8 hx4;obtain⟨q0,q1,q2,q3,q4,q5⟩:=zl hx4;obtain⟨htb4,-,-,d24,-,-,-⟩:=h24.cells;have hrg4:=(hb4.block rg hrgl).trans HRG.out;have hrgl4:=z8 hrg4;obtain⟨z4,hz4⟩:∃ z,T.regs[aa]? = some z:=⟨_,List.getElem?_eq_getElem HAA.out⟩
 have t1:=zT hrg4 aa z4 hz4;have f1:=Lib.frozen_of_heap hrg4 aa;rw[HER.out,←HNR.out]at d24;have HR:=hid (h24.setR HER.out aa x);have H14:=hid h14;clear hw4 hb4 hb3 hw3 h14 h24 hx4 hrg4 hz4 htb d2 hrgl hlx c0 c1 c2 c3 c4 c5
 try clear s1
 try clear s2
 simp only[List.take_succ_cons,List.take_zero,List.drop_succ_cons,List.drop_zero]
 repeat still_step
 refine wpStill_nil ?_;go_wp2_with fail;go_ret;rw[HY.out];exact⟨rfl,ow,v,.refl _ _,H14.out.keeps HR.out.2 (.refl _ _) (by simp;omega) (by simp;omega),HR.out.1,zw HB4.out (zi HR.out.2 (by simp))⟩
theorem qdo_6 {ow:Nat→Nat} {w:World} {b:Nat} {wd:Int} {tv tw:Value} {W:WS} {n:Int} {v:Value} {tb o j:Nat} {T:RT} {rs ws os:Value} (h1:QW ow w b wd tv tw W n v) (h2:QT ow w tb o j T rs ws os) (hnew:∀ k,w.heap.size≤k→ow k=0) (op:Int) (aa:Nat) (ha:aa<T.regs.length) (bq:Int) (c:Int) (x:Int) (mark:Nat) :
 Calls Tryz.prog 197 #[.pointer (some ⟨b,0,none⟩),.pointer (some ⟨tb,o,none⟩),.agg #[.int .u8 6,.int .u8 op,.int .i64 (aa:Int),.int .i64 bq,.int .i64 c,.int .i64 x],.int .i64 (mark:Int)] w (QDo ow b wd tv tw n tb o j rs ws os (doR W T ⟨6,op,(aa:Int),bq,c,x⟩ mark) w):=by
 obtain⟨U,hU⟩:∃ U,U=w.alloc (.cells #[.int .u8 6,.int .u8 op,.int .i64 (aa:Int),.int .i64 bq,.int .i64 c,.int .i64 x] 159):=⟨_,rfl⟩
 have hBU:Below w.heap.size w U:=by rw[hU];exact ze w _
 have hO:U.heap[w.heap.size]? = some (.cells #[.int .u8 6,.int .u8 op,.int .i64 (aa:Int),.int .i64 bq,.int .i64 c,.int .i64 x] 159 (0,0)):=by rw[hU];exact (MapKept.heap_alloc _ _).1
 have h1U:=h1.keeps (But.of (ls:=[]) hBU) (.refl _ _) (by simp) (by simp);have h2U:=h2.keeps (But.of (ls:=[]) hBU) (.refl _ _) (by simp) (by simp) (by simp) (by simp);have H1U:=hid h1U;have H2U:=hid h2U;have HNW:=hid hnew;have HO:=hid hO;have HBU:=hid hBU;have HU:=hid hU;have HBB:=hid (But.of (ow:=ow) (ls:=[]) hBU);obtain⟨htb,-,-,d2,-,-,-⟩:=h2U.cells;obtain⟨rg,er,hrg,hrl⟩:=h2U.regs;have hrgl:=z8 hrg;have HER:=hid er;have HRG:=hid hrg;rw[er]at d2;obtain⟨NR,hNR⟩:∃ N,N=T.regs.length:=⟨_,rfl⟩
 rw[←hNR]at d2;obtain⟨i0,i1,i2,i3,i4,i5⟩:=zl hO;have hlx:=z8 hO;have HNR:=hid hNR;have HAA:=hid ha;have ha1:aa<NR:=by rw[hNR];exact ha
 clear h1 h2 hU hBU hO h1U h2U er hrg hrl hNR hnew ha;have c0:=i0;have c1:=i1;have c2:=i2;have c3:=i3;have c4:=i4;have c5:=i5;rw[HU.out]at i0 i1 i2 i3 i4 i5;go_enter Tryz.func197,Tryz.ntmps197;go_wp2_with fail;have HY:=hid (show doR W T ⟨6,op,(aa:Int),bq,c,x⟩ mark=(W,T.setR (aa:Int) x,(0:Int))from by simp[doR]);rw[←HU.out];obtain⟨w3,hw3⟩:∃ w3,w3=U:=⟨_,rfl⟩
 rw[←hw3];have hb3:Below U.heap.size U w3:=by rw[hw3];exact Below.refl _ _
 refine yJ 9 (by kernel_rfl) (by kernel_rfl) (fun w4 hw4=>?_);have hb4:Below U.heap.size U w4:=hb3.trans ((db hw4).mono hb3.size);have HB4:=hid (zw (zi (l:=[]) (m:=[1,2,10+8*j]) HBB.out (by simp)) (zi (l:=[]) (m:=[1,2,10+8*j]) (But.of hb4) (by simp)));have h14:=H1U.out.keeps (But.of (ls:=[]) hb4) (.refl _ _) (by simp) (by simp);have h24:=H2U.out.keeps (But.of (ls:=[]) hb4) (.refl _ _) (by simp) (by simp) (by simp) (by simp);have hx4:=(hb4.block w.heap.size hlx).trans HO.out;have hl4:=z8 hx4;obtain⟨q0,q1,q2,q3,q4,q5⟩:=zl hx4;obtain⟨htb4,-,-,d24,-,-,-⟩:=h24.cells;have hrg4:=(hb4.block rg hrgl).trans HRG.out;have hrgl4:=z8 hrg4;obtain⟨z4,hz4⟩:∃ z,T.regs[aa]? = some z:=⟨_,List.getElem?_eq_getElem HAA.out⟩
 have t1:=zT hrg4 aa z4 hz4;have f1:=Lib.frozen_of_heap hrg4 aa;rw[HER.out,←HNR.out]at d24;have HR:=hid (h24.setR HER.out aa x);have H14:=hid h14;clear hw4 hb4 hb3 hw3 h14 h24 hx4 hrg4 hz4 htb d2 hrgl hlx c0 c1 c2 c3 c4 c5
 try clear s1
 try clear s2
 simp only[List.take_succ_cons,List.take_zero,List.drop_succ_cons,List.drop_zero]
 repeat still_step
 refine wpStill_nil ?_;go_wp2_with fail;go_ret;rw[HY.out];exact⟨rfl,ow,v,.refl _ _,H14.out.keeps HR.out.2 (.refl _ _) (by simp;omega) (by simp;omega),HR.out.1,zw HB4.out (zi HR.out.2 (by simp))⟩
theorem qdo_2 {ow:Nat→Nat} {w:World} {b:Nat} {wd:Int} {tv tw:Value} {W:WS} {n:Int} {v:Value} {tb o j:Nat} {T:RT} {rs ws os:Value} (h1:QW ow w b wd tv tw W n v) (h2:QT ow w tb o j T rs ws os) (hnew:∀ k,w.heap.size≤k→ow k=0) (op:Int) (aa:Nat) (ha:aa<T.regs.length) (bb:Nat) (hb:bb<T.regs.length) (c:Int) (x:Int) (mark:Nat) :
 Calls Tryz.prog 197 #[.pointer (some ⟨b,0,none⟩),.pointer (some ⟨tb,o,none⟩),.agg #[.int .u8 2,.int .u8 op,.int .i64 (aa:Int),.int .i64 (bb:Int),.int .i64 c,.int .i64 x],.int .i64 (mark:Int)] w (QDo ow b wd tv tw n tb o j rs ws os (doR W T ⟨2,op,(aa:Int),(bb:Int),c,x⟩ mark) w):=by
 obtain⟨U,hU⟩:∃ U,U=w.alloc (.cells #[.int .u8 2,.int .u8 op,.int .i64 (aa:Int),.int .i64 (bb:Int),.int .i64 c,.int .i64 x] 159):=⟨_,rfl⟩
 have hBU:Below w.heap.size w U:=by rw[hU];exact ze w _
 have hO:U.heap[w.heap.size]? = some (.cells #[.int .u8 2,.int .u8 op,.int .i64 (aa:Int),.int .i64 (bb:Int),.int .i64 c,.int .i64 x] 159 (0,0)):=by rw[hU];exact (MapKept.heap_alloc _ _).1
 have h1U:=h1.keeps (But.of (ls:=[]) hBU) (.refl _ _) (by simp) (by simp);have h2U:=h2.keeps (But.of (ls:=[]) hBU) (.refl _ _) (by simp) (by simp) (by simp) (by simp);have H1U:=hid h1U;have H2U:=hid h2U;have HNW:=hid hnew;have HO:=hid hO;have HBU:=hid hBU;have HU:=hid hU;have HBB:=hid (But.of (ow:=ow) (ls:=[]) hBU);obtain⟨htb,-,-,d2,-,-,-⟩:=h2U.cells;obtain⟨rg,er,hrg,hrl⟩:=h2U.regs;have hrgl:=z8 hrg;have HER:=hid er;have HRG:=hid hrg;rw[er]at d2;obtain⟨NR,hNR⟩:∃ N,N=T.regs.length:=⟨_,rfl⟩
 rw[←hNR]at d2;obtain⟨i0,i1,i2,i3,i4,i5⟩:=zl hO;have hlx:=z8 hO;have HNR:=hid hNR;have HAA:=hid ha;have ha1:aa<NR:=by rw[hNR];exact ha
 have hb1:bb<NR:=by rw[hNR];exact hb
 obtain⟨z,hz⟩:∃ z,T.regs[bb]? = some z:=⟨_,List.getElem?_eq_getElem hb⟩
 have s1:=zT hrg bb z hz;have HZ:=hid (wD hz);clear h1 h2 hU hBU hO h1U h2U er hrg hrl hNR hnew ha hb hz;have c0:=i0;have c1:=i1;have c2:=i2;have c3:=i3;have c4:=i4;have c5:=i5;rw[HU.out]at i0 i1 i2 i3 i4 i5;go_enter Tryz.func197,Tryz.ntmps197;go_wp2_with fail;have HY:=hid (show doR W T ⟨2,op,(aa:Int),(bb:Int),c,x⟩ mark=(W,T.setR (aa:Int) z,(0:Int))from by simp[doR,HZ.out]);rw[←HU.out];obtain⟨w3,hw3⟩:∃ w3,w3=U:=⟨_,rfl⟩
 rw[←hw3];have hb3:Below U.heap.size U w3:=by rw[hw3];exact Below.refl _ _
 refine yJ 15 (by kernel_rfl) (by kernel_rfl) (fun w4 hw4=>?_);have hb4:Below U.heap.size U w4:=hb3.trans ((db hw4).mono hb3.size);have HB4:=hid (zw (zi (l:=[]) (m:=[1,2,10+8*j]) HBB.out (by simp)) (zi (l:=[]) (m:=[1,2,10+8*j]) (But.of hb4) (by simp)));have h14:=H1U.out.keeps (But.of (ls:=[]) hb4) (.refl _ _) (by simp) (by simp);have h24:=H2U.out.keeps (But.of (ls:=[]) hb4) (.refl _ _) (by simp) (by simp) (by simp) (by simp);have hx4:=(hb4.block w.heap.size hlx).trans HO.out;have hl4:=z8 hx4;obtain⟨q0,q1,q2,q3,q4,q5⟩:=zl hx4;obtain⟨htb4,-,-,d24,-,-,-⟩:=h24.cells;have hrg4:=(hb4.block rg hrgl).trans HRG.out;have hrgl4:=z8 hrg4;obtain⟨z4,hz4⟩:∃ z,T.regs[aa]? = some z:=⟨_,List.getElem?_eq_getElem HAA.out⟩
 have t1:=zT hrg4 aa z4 hz4;have f1:=Lib.frozen_of_heap hrg4 aa;have t2:=(hb4.cell (p:=⟨rg,bb,none⟩) hrgl).trans s1;rw[HER.out,←HNR.out]at d24;have HR:=hid (h24.setR HER.out aa z);have H14:=hid h14;clear hw4 hb4 hb3 hw3 h14 h24 hx4 hrg4 hz4 htb d2 hrgl hlx c0 c1 c2 c3 c4 c5
 try clear s1
 try clear s2
 simp only[List.take_succ_cons,List.take_zero,List.drop_succ_cons,List.drop_zero]
 repeat still_step
 refine wpStill_nil ?_;go_wp2_with fail;go_ret;rw[HY.out];exact⟨rfl,ow,v,.refl _ _,H14.out.keeps HR.out.2 (.refl _ _) (by simp;omega) (by simp;omega),HR.out.1,zw HB4.out (zi HR.out.2 (by simp))⟩
theorem qdo_3 {ow:Nat→Nat} {w:World} {b:Nat} {wd:Int} {tv tw:Value} {W:WS} {n:Int} {v:Value} {tb o j:Nat} {T:RT} {rs ws os:Value} (h1:QW ow w b wd tv tw W n v) (h2:QT ow w tb o j T rs ws os) (hnew:∀ k,w.heap.size≤k→ow k=0) (op:Int) (aa:Nat) (ha:aa<T.regs.length) (bb:Nat) (hb:bb<T.regs.length) (cc:Nat) (hc:cc<T.regs.length) (x:Int) (mark:Nat) :
 Calls Tryz.prog 197 #[.pointer (some ⟨b,0,none⟩),.pointer (some ⟨tb,o,none⟩),.agg #[.int .u8 3,.int .u8 op,.int .i64 (aa:Int),.int .i64 (bb:Int),.int .i64 (cc:Int),.int .i64 x],.int .i64 (mark:Int)] w (QDo ow b wd tv tw n tb o j rs ws os (doR W T ⟨3,op,(aa:Int),(bb:Int),(cc:Int),x⟩ mark) w):=by
 obtain⟨U,hU⟩:∃ U,U=w.alloc (.cells #[.int .u8 3,.int .u8 op,.int .i64 (aa:Int),.int .i64 (bb:Int),.int .i64 (cc:Int),.int .i64 x] 159):=⟨_,rfl⟩
 have hBU:Below w.heap.size w U:=by rw[hU];exact ze w _
 have hO:U.heap[w.heap.size]? = some (.cells #[.int .u8 3,.int .u8 op,.int .i64 (aa:Int),.int .i64 (bb:Int),.int .i64 (cc:Int),.int .i64 x] 159 (0,0)):=by rw[hU];exact (MapKept.heap_alloc _ _).1
 have h1U:=h1.keeps (But.of (ls:=[]) hBU) (.refl _ _) (by simp) (by simp);have h2U:=h2.keeps (But.of (ls:=[]) hBU) (.refl _ _) (by simp) (by simp) (by simp) (by simp);have H1U:=hid h1U;have H2U:=hid h2U;have HNW:=hid hnew;have HO:=hid hO;have HBU:=hid hBU;have HU:=hid hU;have HBB:=hid (But.of (ow:=ow) (ls:=[]) hBU);obtain⟨htb,-,-,d2,-,-,-⟩:=h2U.cells;obtain⟨rg,er,hrg,hrl⟩:=h2U.regs;have hrgl:=z8 hrg;have HER:=hid er;have HRG:=hid hrg;rw[er]at d2;obtain⟨NR,hNR⟩:∃ N,N=T.regs.length:=⟨_,rfl⟩
 rw[←hNR]at d2;obtain⟨i0,i1,i2,i3,i4,i5⟩:=zl hO;have hlx:=z8 hO;have HNR:=hid hNR;have HAA:=hid ha;have ha1:aa<NR:=by rw[hNR];exact ha
 have hb1:bb<NR:=by rw[hNR];exact hb
 obtain⟨z,hz⟩:∃ z,T.regs[bb]? = some z:=⟨_,List.getElem?_eq_getElem hb⟩
 have s1:=zT hrg bb z hz;have HZ:=hid (wD hz);have hc1:cc<NR:=by rw[hNR];exact hc
 obtain⟨y,hy⟩:∃ y,T.regs[cc]? = some y:=⟨_,List.getElem?_eq_getElem hc⟩
 have s2:=zT hrg cc y hy;have HYC:=hid (wD hy);clear h1 h2 hU hBU hO h1U h2U er hrg hrl hNR hnew ha hb hz hc hy;have c0:=i0;have c1:=i1;have c2:=i2;have c3:=i3;have c4:=i4;have c5:=i5;rw[HU.out]at i0 i1 i2 i3 i4 i5;go_enter Tryz.func197,Tryz.ntmps197;go_wp2_with fail;rw[←HU.out];have HD:=hid (fun (V:World)=>z2q op z y V);obtain⟨dn,hdn⟩:∃ d,d=doN op z y:=⟨_,rfl⟩
 obtain⟨de,hde⟩:∃ d,d=doE op y:=⟨_,rfl⟩
 rw[←hdn,←hde]at HD;have HQ:=hid (fun (k:Nat)=>((HD.out (U.drewN k)).mono fun e w' hh=>(show e = .returned (.tuple #[.int .i64 dn,.int .i64 de])∧∃ m,w'=U.drewN m from⟨hh.1,k,hh.2.symm⟩):Calls Tryz.prog 220 #[.int .u8 op,.int .i64 z,.int .i64 y] (U.drewN k) _));have HDE:=hid (And.intro hdn hde);clear hdn hde
 go_quiet ((go_at_call 220;exact HQ.out _))
 by_cases he:de=0
 · have HY:=hid (show doR W T ⟨3,op,(aa:Int),(bb:Int),(cc:Int),x⟩ mark=(W,T.setR (aa:Int) dn,(0:Int))from by
    have h:doE op y=0:=by rw[←HDE.out.2];exact he
    simp[doR,HZ.out,HYC.out,h,HDE.out.1])
   have hd:(de != 0)=false:=by simpa using he
   clear he;go_wp2_with fail;obtain⟨w3,hw3⟩:∃ w3,w3=U.drewN nq:=⟨_,rfl⟩
   rw[←hw3];have hb3:Below U.heap.size U w3:=by rw[hw3];exact below_drewN (Below.refl _ _) nq
   refine yJ 8 (by kernel_rfl) (by kernel_rfl) (fun w4 hw4=>?_);have hb4:Below U.heap.size U w4:=hb3.trans ((db hw4).mono hb3.size);have HB4:=hid (zw (zi (l:=[]) (m:=[1,2,10+8*j]) HBB.out (by simp)) (zi (l:=[]) (m:=[1,2,10+8*j]) (But.of hb4) (by simp)));have h14:=H1U.out.keeps (But.of (ls:=[]) hb4) (.refl _ _) (by simp) (by simp);have h24:=H2U.out.keeps (But.of (ls:=[]) hb4) (.refl _ _) (by simp) (by simp) (by simp) (by simp);have hx4:=(hb4.block w.heap.size hlx).trans HO.out;have hl4:=z8 hx4;obtain⟨q0,q1,q2,q3,q4,q5⟩:=zl hx4;obtain⟨htb4,-,-,d24,-,-,-⟩:=h24.cells;have hrg4:=(hb4.block rg hrgl).trans HRG.out;have hrgl4:=z8 hrg4;obtain⟨z4,hz4⟩:∃ z,T.regs[aa]? = some z:=⟨_,List.getElem?_eq_getElem HAA.out⟩
   have t1:=zT hrg4 aa z4 hz4;have f1:=Lib.frozen_of_heap hrg4 aa;rw[HER.out,←HNR.out]at d24;have HR:=hid (h24.setR HER.out aa dn);have H14:=hid h14;clear hw4 hb4 hb3 hw3 h14 h24 hx4 hrg4 hz4 htb d2 hrgl hlx c0 c1 c2 c3 c4 c5
   try clear s1
   try clear s2
   simp only[List.take_succ_cons,List.take_zero,List.drop_succ_cons,List.drop_zero]
   repeat still_step
   refine wpStill_nil ?_;go_wp2_with fail;go_ret;rw[HY.out];exact⟨rfl,ow,v,.refl _ _,H14.out.keeps HR.out.2 (.refl _ _) (by simp;omega) (by simp;omega),HR.out.1,zw HB4.out (zi HR.out.2 (by simp))⟩
 · have HY:=hid (show doR W T ⟨3,op,(aa:Int),(bb:Int),(cc:Int),x⟩ mark=(W,T,(2:Int))from by
    have h:¬ doE op y=0:=by rw[←HDE.out.2];exact he
    simp[doR,HYC.out,h])
   have hd:(de != 0)=true:=by simpa using he
   clear he;go_wp2_with fail;go_ret;rw[HY.out];have hb5:Below U.heap.size U (U.drewN nq):=below_drewN (Below.refl _ _) nq;exact⟨rfl,ow,v,.refl _ _,H1U.out.keeps (But.of (ls:=[]) hb5) (.refl _ _) (by simp) (by simp),H2U.out.keeps (But.of (ls:=[]) hb5) (.refl _ _) (by simp) (by simp) (by simp) (by simp),zw (zi (l:=[]) (m:=[1,2,10+8*j]) HBB.out (by simp)) (zi (l:=[]) (m:=[1,2,10+8*j]) (But.of hb5) (by simp))⟩
theorem qdo_4 {ow:Nat→Nat} {w:World} {b:Nat} {wd:Int} {tv tw:Value} {W:WS} {n:Int} {v:Value} {tb o j:Nat} {T:RT} {rs ws os:Value} (h1:QW ow w b wd tv tw W n v) (h2:QT ow w tb o j T rs ws os) (hnew:∀ k,w.heap.size≤k→ow k=0) (op:Int) (a:Int) (bb:Nat) (hb:bb<T.regs.length) (c:Int) (x:Int) (mark:Nat) :
 Calls Tryz.prog 197 #[.pointer (some ⟨b,0,none⟩),.pointer (some ⟨tb,o,none⟩),.agg #[.int .u8 4,.int .u8 op,.int .i64 a,.int .i64 (bb:Int),.int .i64 c,.int .i64 x],.int .i64 (mark:Int)] w (QDo ow b wd tv tw n tb o j rs ws os (doR W T ⟨4,op,a,(bb:Int),c,x⟩ mark) w):=by
 obtain⟨U,hU⟩:∃ U,U=w.alloc (.cells #[.int .u8 4,.int .u8 op,.int .i64 a,.int .i64 (bb:Int),.int .i64 c,.int .i64 x] 159):=⟨_,rfl⟩
 have hBU:Below w.heap.size w U:=by rw[hU];exact ze w _
 have hO:U.heap[w.heap.size]? = some (.cells #[.int .u8 4,.int .u8 op,.int .i64 a,.int .i64 (bb:Int),.int .i64 c,.int .i64 x] 159 (0,0)):=by rw[hU];exact (MapKept.heap_alloc _ _).1
 have h1U:=h1.keeps (But.of (ls:=[]) hBU) (.refl _ _) (by simp) (by simp);have h2U:=h2.keeps (But.of (ls:=[]) hBU) (.refl _ _) (by simp) (by simp) (by simp) (by simp);have H1U:=hid h1U;have H2U:=hid h2U;have HNW:=hid hnew;have HO:=hid hO;have HBU:=hid hBU;have HU:=hid hU;have HBB:=hid (But.of (ow:=ow) (ls:=[]) hBU);obtain⟨htb,-,-,d2,-,-,-⟩:=h2U.cells;obtain⟨rg,er,hrg,hrl⟩:=h2U.regs;have hrgl:=z8 hrg;have HER:=hid er;have HRG:=hid hrg;rw[er]at d2;obtain⟨NR,hNR⟩:∃ N,N=T.regs.length:=⟨_,rfl⟩
 rw[←hNR]at d2;obtain⟨i0,i1,i2,i3,i4,i5⟩:=zl hO;have hlx:=z8 hO;have HNR:=hid hNR;have hb1:bb<NR:=by rw[hNR];exact hb
 obtain⟨z,hz⟩:∃ z,T.regs[bb]? = some z:=⟨_,List.getElem?_eq_getElem hb⟩
 have s1:=zT hrg bb z hz;have HZ:=hid (wD hz);clear h1 h2 hU hBU hO h1U h2U er hrg hrl hNR hnew hb hz;have c0:=i0;have c1:=i1;have c2:=i2;have c3:=i3;have c4:=i4;have c5:=i5;rw[HU.out]at i0 i1 i2 i3 i4 i5;go_enter Tryz.func197,Tryz.ntmps197;go_wp2_with fail;rw[←HU.out]
 go_quiet (fail)
 by_cases he:z=0
 · have HY:=hid (show doR W T ⟨4,op,a,(bb:Int),c,x⟩ mark=(W,T,(3:Int))from by simp[doR,HZ.out,he])
   have hd:(z==0)=true:=by simpa using he
   replace he:=hid he
   go_wp2_with fail;go_ret;rw[HY.out];have hb5:Below U.heap.size U (U.drewN nq):=below_drewN (Below.refl _ _) nq;exact⟨rfl,ow,v,.refl _ _,H1U.out.keeps (But.of (ls:=[]) hb5) (.refl _ _) (by simp) (by simp),H2U.out.keeps (But.of (ls:=[]) hb5) (.refl _ _) (by simp) (by simp) (by simp) (by simp),zw (zi (l:=[]) (m:=[1,2,10+8*j]) HBB.out (by simp)) (zi (l:=[]) (m:=[1,2,10+8*j]) (But.of hb5) (by simp))⟩
 · have HY:=hid (show doR W T ⟨4,op,a,(bb:Int),c,x⟩ mark=(W,T,(0:Int))from by simp[doR,HZ.out,he])
   have hd:(z==0)=false:=by simpa using he
   replace he:=hid he
   go_wp2_with fail;go_ret;rw[HY.out];have hb5:Below U.heap.size U (U.drewN nq):=below_drewN (Below.refl _ _) nq;exact⟨rfl,ow,v,.refl _ _,H1U.out.keeps (But.of (ls:=[]) hb5) (.refl _ _) (by simp) (by simp),H2U.out.keeps (But.of (ls:=[]) hb5) (.refl _ _) (by simp) (by simp) (by simp) (by simp),zw (zi (l:=[]) (m:=[1,2,10+8*j]) HBB.out (by simp)) (zi (l:=[]) (m:=[1,2,10+8*j]) (But.of hb5) (by simp))⟩
theorem qdo_5 {ow:Nat→Nat} {w:World} {b:Nat} {wd:Int} {tv tw:Value} {W:WS} {n:Int} {v:Value} {tb o j:Nat} {T:RT} {rs ws os:Value} (h1:QW ow w b wd tv tw W n v) (h2:QT ow w tb o j T rs ws os) (hnew:∀ k,w.heap.size≤k→ow k=0) (op:Int) (a:Int) (bb:Nat) (hb:bb<T.regs.length) (c:Int) (x:Int) (mark:Nat) :
 Calls Tryz.prog 197 #[.pointer (some ⟨b,0,none⟩),.pointer (some ⟨tb,o,none⟩),.agg #[.int .u8 5,.int .u8 op,.int .i64 a,.int .i64 (bb:Int),.int .i64 c,.int .i64 x],.int .i64 (mark:Int)] w (QDo ow b wd tv tw n tb o j rs ws os (doR W T ⟨5,op,a,(bb:Int),c,x⟩ mark) w):=by
 obtain⟨U,hU⟩:∃ U,U=w.alloc (.cells #[.int .u8 5,.int .u8 op,.int .i64 a,.int .i64 (bb:Int),.int .i64 c,.int .i64 x] 159):=⟨_,rfl⟩
 have hBU:Below w.heap.size w U:=by rw[hU];exact ze w _
 have hO:U.heap[w.heap.size]? = some (.cells #[.int .u8 5,.int .u8 op,.int .i64 a,.int .i64 (bb:Int),.int .i64 c,.int .i64 x] 159 (0,0)):=by rw[hU];exact (MapKept.heap_alloc _ _).1
 have h1U:=h1.keeps (But.of (ls:=[]) hBU) (.refl _ _) (by simp) (by simp);have h2U:=h2.keeps (But.of (ls:=[]) hBU) (.refl _ _) (by simp) (by simp) (by simp) (by simp);have H1U:=hid h1U;have H2U:=hid h2U;have HNW:=hid hnew;have HO:=hid hO;have HBU:=hid hBU;have HU:=hid hU;have HBB:=hid (But.of (ow:=ow) (ls:=[]) hBU);obtain⟨htb,-,-,d2,-,-,-⟩:=h2U.cells;obtain⟨rg,er,hrg,hrl⟩:=h2U.regs;have hrgl:=z8 hrg;have HER:=hid er;have HRG:=hid hrg;rw[er]at d2;obtain⟨NR,hNR⟩:∃ N,N=T.regs.length:=⟨_,rfl⟩
 rw[←hNR]at d2;obtain⟨i0,i1,i2,i3,i4,i5⟩:=zl hO;have hlx:=z8 hO;have HNR:=hid hNR;have hb1:bb<NR:=by rw[hNR];exact hb
 obtain⟨z,hz⟩:∃ z,T.regs[bb]? = some z:=⟨_,List.getElem?_eq_getElem hb⟩
 have s1:=zT hrg bb z hz;have HZ:=hid (wD hz);clear h1 h2 hU hBU hO h1U h2U er hrg hrl hNR hnew hb hz;have c0:=i0;have c1:=i1;have c2:=i2;have c3:=i3;have c4:=i4;have c5:=i5;rw[HU.out]at i0 i1 i2 i3 i4 i5;go_enter Tryz.func197,Tryz.ntmps197;go_wp2_with fail;rw[←HU.out]
 by_cases he:z<0
 · have HY:=hid (show doR W T ⟨5,op,a,(bb:Int),c,x⟩ mark=(W,T,(4:Int))from by simp[doR,HZ.out,he])
   have hd:decide (z<0)=true:=by simpa using he
   replace he:=hid he
   go_quiet (fail)
   go_wp2_with fail;go_ret;rw[HY.out];have hb5:Below U.heap.size U (U.drewN nq):=below_drewN (Below.refl _ _) nq;exact⟨rfl,ow,v,.refl _ _,H1U.out.keeps (But.of (ls:=[]) hb5) (.refl _ _) (by simp) (by simp),H2U.out.keeps (But.of (ls:=[]) hb5) (.refl _ _) (by simp) (by simp) (by simp) (by simp),zw (zi (l:=[]) (m:=[1,2,10+8*j]) HBB.out (by simp)) (zi (l:=[]) (m:=[1,2,10+8*j]) (But.of hb5) (by simp))⟩
 · have hd:decide (z<0)=false:=by simpa using he
   by_cases he2:x≤z
   · have HY:=hid (show doR W T ⟨5,op,a,(bb:Int),c,x⟩ mark=(W,T,(4:Int))from by simp[doR,HZ.out,he2])
     have hd2:decide (x≤z)=true:=by simpa using he2
     replace he:=hid he
     replace he2:=hid he2
     go_quiet (fail)
     go_wp2_with fail;go_ret;rw[HY.out];have hb5:Below U.heap.size U (U.drewN nq):=below_drewN (Below.refl _ _) nq;exact⟨rfl,ow,v,.refl _ _,H1U.out.keeps (But.of (ls:=[]) hb5) (.refl _ _) (by simp) (by simp),H2U.out.keeps (But.of (ls:=[]) hb5) (.refl _ _) (by simp) (by simp) (by simp) (by simp),zw (zi (l:=[]) (m:=[1,2,10+8*j]) HBB.out (by simp)) (zi (l:=[]) (m:=[1,2,10+8*j]) (But.of hb5) (by simp))⟩
   · have HY:=hid (show doR W T ⟨5,op,a,(bb:Int),c,x⟩ mark=(W,T,(0:Int))from by simp[doR,HZ.out,he,he2])
     have hd2:decide (x≤z)=false:=by simpa using he2
     replace he:=hid he
     replace he2:=hid he2
     go_quiet (fail)
     go_wp2_with fail;go_ret;rw[HY.out];have hb5:Below U.heap.size U (U.drewN nq):=below_drewN (Below.refl _ _) nq;exact⟨rfl,ow,v,.refl _ _,H1U.out.keeps (But.of (ls:=[]) hb5) (.refl _ _) (by simp) (by simp),H2U.out.keeps (But.of (ls:=[]) hb5) (.refl _ _) (by simp) (by simp) (by simp) (by simp),zw (zi (l:=[]) (m:=[1,2,10+8*j]) HBB.out (by simp)) (zi (l:=[]) (m:=[1,2,10+8*j]) (But.of hb5) (by simp))⟩
theorem qdo_8 {ow:Nat→Nat} {w:World} {b:Nat} {wd:Int} {tv tw:Value} {W:WS} {n:Int} {v:Value} {tb o j:Nat} {T:RT} {rs ws os:Value} (h1:QW ow w b wd tv tw W n v) (h2:QT ow w tb o j T rs ws os) (hnew:∀ k,w.heap.size≤k→ow k=0) (op:Int) (aa:Nat) (ha:aa<T.regs.length) (bb:Nat) (hb:bb<T.regs.length) (c:Int) (x:Int) (hc:c<0∨yj T.regs.length c) (mark:Nat) :
 Calls Tryz.prog 197 #[.pointer (some ⟨b,0,none⟩),.pointer (some ⟨tb,o,none⟩),.agg #[.int .u8 8,.int .u8 op,.int .i64 (aa:Int),.int .i64 (bb:Int),.int .i64 c,.int .i64 x],.int .i64 (mark:Int)] w (QDo ow b wd tv tw n tb o j rs ws os (doR W T ⟨8,op,(aa:Int),(bb:Int),c,x⟩ mark) w):=by
 obtain⟨U,hU⟩:∃ U,U=w.alloc (.cells #[.int .u8 8,.int .u8 op,.int .i64 (aa:Int),.int .i64 (bb:Int),.int .i64 c,.int .i64 x] 159):=⟨_,rfl⟩
 have hBU:Below w.heap.size w U:=by rw[hU];exact ze w _
 have hO:U.heap[w.heap.size]? = some (.cells #[.int .u8 8,.int .u8 op,.int .i64 (aa:Int),.int .i64 (bb:Int),.int .i64 c,.int .i64 x] 159 (0,0)):=by rw[hU];exact (MapKept.heap_alloc _ _).1
 have h1U:=h1.keeps (But.of (ls:=[]) hBU) (.refl _ _) (by simp) (by simp);have h2U:=h2.keeps (But.of (ls:=[]) hBU) (.refl _ _) (by simp) (by simp) (by simp) (by simp);have H1U:=hid h1U;have H2U:=hid h2U;have HNW:=hid hnew;have HO:=hid hO;have HBU:=hid hBU;have HU:=hid hU;have HBB:=hid (But.of (ow:=ow) (ls:=[]) hBU);obtain⟨htb,-,-,d2,-,-,-⟩:=h2U.cells;obtain⟨rg,er,hrg,hrl⟩:=h2U.regs;have hrgl:=z8 hrg;have HER:=hid er;have HRG:=hid hrg;rw[er]at d2;obtain⟨NR,hNR⟩:∃ N,N=T.regs.length:=⟨_,rfl⟩
 rw[←hNR]at d2;obtain⟨i0,i1,i2,i3,i4,i5⟩:=zl hO;have hlx:=z8 hO;have HNR:=hid hNR;have HAA:=hid ha;have ha1:aa<NR:=by rw[hNR];exact ha
 have hb1:bb<NR:=by rw[hNR];exact hb
 obtain⟨z,hz⟩:∃ z,T.regs[bb]? = some z:=⟨_,List.getElem?_eq_getElem hb⟩
 have s1:=zT hrg bb z hz;have HZ:=hid (wD hz);have HAC:=hid (Vv h1U h2U (fun k hk=>hnew k (Nat.le_trans hBU.size hk)) op aa bb c x mark ha hb hc);clear h1 h2 hU hBU hO h1U h2U er hrg hrl hNR hnew ha hb hz hc;have c0:=i0;have c1:=i1;have c2:=i2;have c3:=i3;have c4:=i4;have c5:=i5;rw[HU.out]at i0 i1 i2 i3 i4 i5;go_enter Tryz.func197,Tryz.ntmps197;go_wp2_with fail;have HY:=hid (show doR W T ⟨8,op,(aa:Int),(bb:Int),c,x⟩ mark=zY W T ⟨8,op,(aa:Int),(bb:Int),c,x⟩ mark from by simp[doR]);rw[←HU.out];refine HAC.out.mono ?_;rintro e w5 ⟨rfl,ow5,v5,g1,g2,g3,g4⟩;have HG:=hid (And.intro g1 (And.intro g2 (And.intro g3 g4)));clear g1 g2 g3 g4;go_wp2_with fail;go_ret;rw[HY.out];exact⟨rfl,ow5,v5,fun k hk=>HG.out.1 k (Nat.lt_of_lt_of_le hk HBU.out.size),HG.out.2.1,HG.out.2.2.1,zw (zi (l:=[]) (m:=[1,2,10+8*j]) HBB.out (by simp)) HG.out.2.2.2⟩
theorem qdo_9 {ow:Nat→Nat} {w:World} {b:Nat} {wd:Int} {tv tw:Value} {W:WS} {n:Int} {v:Value} {tb o j:Nat} {T:RT} {rs ws os:Value} (h1:QW ow w b wd tv tw W n v) (h2:QT ow w tb o j T rs ws os) (hnew:∀ k,w.heap.size≤k→ow k=0) (op:Int) (aa:Nat) (ha:aa<T.regs.length) (bb:Nat) (hb:bb<T.regs.length) (c:Int) (x:Int) (hc:c<0∨yj T.regs.length c) (mark:Nat) :
 Calls Tryz.prog 197 #[.pointer (some ⟨b,0,none⟩),.pointer (some ⟨tb,o,none⟩),.agg #[.int .u8 9,.int .u8 op,.int .i64 (aa:Int),.int .i64 (bb:Int),.int .i64 c,.int .i64 x],.int .i64 (mark:Int)] w (QDo ow b wd tv tw n tb o j rs ws os (doR W T ⟨9,op,(aa:Int),(bb:Int),c,x⟩ mark) w):=by
 obtain⟨U,hU⟩:∃ U,U=w.alloc (.cells #[.int .u8 9,.int .u8 op,.int .i64 (aa:Int),.int .i64 (bb:Int),.int .i64 c,.int .i64 x] 159):=⟨_,rfl⟩
 have hBU:Below w.heap.size w U:=by rw[hU];exact ze w _
 have hO:U.heap[w.heap.size]? = some (.cells #[.int .u8 9,.int .u8 op,.int .i64 (aa:Int),.int .i64 (bb:Int),.int .i64 c,.int .i64 x] 159 (0,0)):=by rw[hU];exact (MapKept.heap_alloc _ _).1
 have h1U:=h1.keeps (But.of (ls:=[]) hBU) (.refl _ _) (by simp) (by simp);have h2U:=h2.keeps (But.of (ls:=[]) hBU) (.refl _ _) (by simp) (by simp) (by simp) (by simp);have H1U:=hid h1U;have H2U:=hid h2U;have HNW:=hid hnew;have HO:=hid hO;have HBU:=hid hBU;have HU:=hid hU;have HBB:=hid (But.of (ow:=ow) (ls:=[]) hBU);obtain⟨htb,-,-,d2,-,-,-⟩:=h2U.cells;obtain⟨rg,er,hrg,hrl⟩:=h2U.regs;have hrgl:=z8 hrg;have HER:=hid er;have HRG:=hid hrg;rw[er]at d2;obtain⟨NR,hNR⟩:∃ N,N=T.regs.length:=⟨_,rfl⟩
 rw[←hNR]at d2;obtain⟨i0,i1,i2,i3,i4,i5⟩:=zl hO;have hlx:=z8 hO;have HNR:=hid hNR;have HAA:=hid ha;have ha1:aa<NR:=by rw[hNR];exact ha
 have hb1:bb<NR:=by rw[hNR];exact hb
 obtain⟨z,hz⟩:∃ z,T.regs[bb]? = some z:=⟨_,List.getElem?_eq_getElem hb⟩
 have s1:=zT hrg bb z hz;have HZ:=hid (wD hz);have HAC:=hid (Vu h1U h2U (fun k hk=>hnew k (Nat.le_trans hBU.size hk)) op aa bb c x mark ha hb hc);clear h1 h2 hU hBU hO h1U h2U er hrg hrl hNR hnew ha hb hz hc;have c0:=i0;have c1:=i1;have c2:=i2;have c3:=i3;have c4:=i4;have c5:=i5;rw[HU.out]at i0 i1 i2 i3 i4 i5;go_enter Tryz.func197,Tryz.ntmps197;go_wp2_with fail;have HY:=hid (show doR W T ⟨9,op,(aa:Int),(bb:Int),c,x⟩ mark=zY W T ⟨9,op,(aa:Int),(bb:Int),c,x⟩ mark from by simp[doR]);rw[←HU.out];refine HAC.out.mono ?_;rintro e w5 ⟨rfl,ow5,v5,g1,g2,g3,g4⟩;have HG:=hid (And.intro g1 (And.intro g2 (And.intro g3 g4)));clear g1 g2 g3 g4;go_wp2_with fail;go_ret;rw[HY.out];exact⟨rfl,ow5,v5,fun k hk=>HG.out.1 k (Nat.lt_of_lt_of_le hk HBU.out.size),HG.out.2.1,HG.out.2.2.1,zw (zi (l:=[]) (m:=[1,2,10+8*j]) HBB.out (by simp)) HG.out.2.2.2⟩
theorem Vs {ow:Nat→Nat} {w:World} {b:Nat} {wd:Int} {tv tw:Value} {W:WS} {n:Int} {v:Value} {tb o j:Nat} {T:RT} {rs ws os:Value} (h1:QW ow w b wd tv tw W n v) (h2:QT ow w tb o j T rs ws os) (hnew:∀ k,w.heap.size≤k→ow k=0) (op:Int) (aa:Nat) (ha:aa<T.regs.length) (bb:Nat) (hb:bb<T.regs.length) (c:Int) (x:Int) (hc:c<0∨yj T.regs.length c) (mark:Nat) :
 Calls Tryz.prog 197 #[.pointer (some ⟨b,0,none⟩),.pointer (some ⟨tb,o,none⟩),.agg #[.int .u8 10,.int .u8 op,.int .i64 (aa:Int),.int .i64 (bb:Int),.int .i64 c,.int .i64 x],.int .i64 (mark:Int)] w (QDo ow b wd tv tw n tb o j rs ws os (doR W T ⟨10,op,(aa:Int),(bb:Int),c,x⟩ mark) w):=by
 obtain⟨U,hU⟩:∃ U,U=w.alloc (.cells #[.int .u8 10,.int .u8 op,.int .i64 (aa:Int),.int .i64 (bb:Int),.int .i64 c,.int .i64 x] 159):=⟨_,rfl⟩
 have hBU:Below w.heap.size w U:=by rw[hU];exact ze w _
 have hO:U.heap[w.heap.size]? = some (.cells #[.int .u8 10,.int .u8 op,.int .i64 (aa:Int),.int .i64 (bb:Int),.int .i64 c,.int .i64 x] 159 (0,0)):=by rw[hU];exact (MapKept.heap_alloc _ _).1
 have h1U:=h1.keeps (But.of (ls:=[]) hBU) (.refl _ _) (by simp) (by simp);have h2U:=h2.keeps (But.of (ls:=[]) hBU) (.refl _ _) (by simp) (by simp) (by simp) (by simp);have H1U:=hid h1U;have H2U:=hid h2U;have HNW:=hid hnew;have HO:=hid hO;have HBU:=hid hBU;have HU:=hid hU;have HBB:=hid (But.of (ow:=ow) (ls:=[]) hBU);obtain⟨htb,-,-,d2,-,-,-⟩:=h2U.cells;obtain⟨rg,er,hrg,hrl⟩:=h2U.regs;have hrgl:=z8 hrg;have HER:=hid er;have HRG:=hid hrg;rw[er]at d2;obtain⟨NR,hNR⟩:∃ N,N=T.regs.length:=⟨_,rfl⟩
 rw[←hNR]at d2;obtain⟨i0,i1,i2,i3,i4,i5⟩:=zl hO;have hlx:=z8 hO;have HNR:=hid hNR;have HAA:=hid ha;have ha1:aa<NR:=by rw[hNR];exact ha
 have hb1:bb<NR:=by rw[hNR];exact hb
 obtain⟨z,hz⟩:∃ z,T.regs[bb]? = some z:=⟨_,List.getElem?_eq_getElem hb⟩
 have s1:=zT hrg bb z hz;have HZ:=hid (wD hz);have HAC:=hid (Vx h1U h2U (fun k hk=>hnew k (Nat.le_trans hBU.size hk)) op aa bb c x mark ha hb hc);clear h1 h2 hU hBU hO h1U h2U er hrg hrl hNR hnew ha hb hz hc;have c0:=i0;have c1:=i1;have c2:=i2;have c3:=i3;have c4:=i4;have c5:=i5;rw[HU.out]at i0 i1 i2 i3 i4 i5;go_enter Tryz.func197,Tryz.ntmps197;go_wp2_with fail;have HY:=hid (show doR W T ⟨10,op,(aa:Int),(bb:Int),c,x⟩ mark=zY W T ⟨10,op,(aa:Int),(bb:Int),c,x⟩ mark from by simp[doR]);rw[←HU.out];refine HAC.out.mono ?_;rintro e w5 ⟨rfl,ow5,v5,g1,g2,g3,g4⟩;have HG:=hid (And.intro g1 (And.intro g2 (And.intro g3 g4)));clear g1 g2 g3 g4;go_wp2_with fail;go_ret;rw[HY.out];exact⟨rfl,ow5,v5,fun k hk=>HG.out.1 k (Nat.lt_of_lt_of_le hk HBU.out.size),HG.out.2.1,HG.out.2.2.1,zw (zi (l:=[]) (m:=[1,2,10+8*j]) HBB.out (by simp)) HG.out.2.2.2⟩
theorem Vr {ow:Nat→Nat} {w:World} {b:Nat} {wd:Int} {tv tw:Value} {W:WS} {n:Int} {v:Value} {tb o j:Nat} {T:RT} {rs ws os:Value} (h1:QW ow w b wd tv tw W n v) (h2:QT ow w tb o j T rs ws os) (hnew:∀ k,w.heap.size≤k→ow k=0) (op:Int) (aa:Nat) (ha:aa<T.regs.length) (bb:Nat) (hb:bb<T.regs.length) (c:Int) (x:Int) (hc:c<0∨yj T.regs.length c) (mark:Nat) :
 Calls Tryz.prog 197 #[.pointer (some ⟨b,0,none⟩),.pointer (some ⟨tb,o,none⟩),.agg #[.int .u8 11,.int .u8 op,.int .i64 (aa:Int),.int .i64 (bb:Int),.int .i64 c,.int .i64 x],.int .i64 (mark:Int)] w (QDo ow b wd tv tw n tb o j rs ws os (doR W T ⟨11,op,(aa:Int),(bb:Int),c,x⟩ mark) w):=by
 obtain⟨U,hU⟩:∃ U,U=w.alloc (.cells #[.int .u8 11,.int .u8 op,.int .i64 (aa:Int),.int .i64 (bb:Int),.int .i64 c,.int .i64 x] 159):=⟨_,rfl⟩
 have hBU:Below w.heap.size w U:=by rw[hU];exact ze w _
 have hO:U.heap[w.heap.size]? = some (.cells #[.int .u8 11,.int .u8 op,.int .i64 (aa:Int),.int .i64 (bb:Int),.int .i64 c,.int .i64 x] 159 (0,0)):=by rw[hU];exact (MapKept.heap_alloc _ _).1
 have h1U:=h1.keeps (But.of (ls:=[]) hBU) (.refl _ _) (by simp) (by simp);have h2U:=h2.keeps (But.of (ls:=[]) hBU) (.refl _ _) (by simp) (by simp) (by simp) (by simp);have H1U:=hid h1U;have H2U:=hid h2U;have HNW:=hid hnew;have HO:=hid hO;have HBU:=hid hBU;have HU:=hid hU;have HBB:=hid (But.of (ow:=ow) (ls:=[]) hBU);obtain⟨htb,-,-,d2,-,-,-⟩:=h2U.cells;obtain⟨rg,er,hrg,hrl⟩:=h2U.regs;have hrgl:=z8 hrg;have HER:=hid er;have HRG:=hid hrg;rw[er]at d2;obtain⟨NR,hNR⟩:∃ N,N=T.regs.length:=⟨_,rfl⟩
 rw[←hNR]at d2;obtain⟨i0,i1,i2,i3,i4,i5⟩:=zl hO;have hlx:=z8 hO;have HNR:=hid hNR;have HAA:=hid ha;have ha1:aa<NR:=by rw[hNR];exact ha
 have hb1:bb<NR:=by rw[hNR];exact hb
 obtain⟨z,hz⟩:∃ z,T.regs[bb]? = some z:=⟨_,List.getElem?_eq_getElem hb⟩
 have s1:=zT hrg bb z hz;have HZ:=hid (wD hz);have HAC:=hid (Vw h1U h2U (fun k hk=>hnew k (Nat.le_trans hBU.size hk)) op aa bb c x mark ha hb hc);clear h1 h2 hU hBU hO h1U h2U er hrg hrl hNR hnew ha hb hz hc;have c0:=i0;have c1:=i1;have c2:=i2;have c3:=i3;have c4:=i4;have c5:=i5;rw[HU.out]at i0 i1 i2 i3 i4 i5;go_enter Tryz.func197,Tryz.ntmps197;go_wp2_with fail;have HY:=hid (show doR W T ⟨11,op,(aa:Int),(bb:Int),c,x⟩ mark=zY W T ⟨11,op,(aa:Int),(bb:Int),c,x⟩ mark from by simp[doR]);rw[←HU.out];refine HAC.out.mono ?_;rintro e w5 ⟨rfl,ow5,v5,g1,g2,g3,g4⟩;have HG:=hid (And.intro g1 (And.intro g2 (And.intro g3 g4)));clear g1 g2 g3 g4;go_wp2_with fail;go_ret;rw[HY.out];exact⟨rfl,ow5,v5,fun k hk=>HG.out.1 k (Nat.lt_of_lt_of_le hk HBU.out.size),HG.out.2.1,HG.out.2.2.1,zw (zi (l:=[]) (m:=[1,2,10+8*j]) HBB.out (by simp)) HG.out.2.2.2⟩
theorem Vq {ow:Nat→Nat} {w:World} {b:Nat} {wd:Int} {tv tw:Value} {W:WS} {n:Int} {v:Value} {tb o j:Nat} {T:RT} {rs ws os:Value} (h1:QW ow w b wd tv tw W n v) (h2:QT ow w tb o j T rs ws os) (hnew:∀ k,w.heap.size≤k→ow k=0) (op:Int) (a:Int) (bq:Int) (c:Int) (x:Int) (mark:Nat) :
 Calls Tryz.prog 197 #[.pointer (some ⟨b,0,none⟩),.pointer (some ⟨tb,o,none⟩),.agg #[.int .u8 13,.int .u8 op,.int .i64 a,.int .i64 bq,.int .i64 c,.int .i64 x],.int .i64 (mark:Int)] w (QDo ow b wd tv tw n tb o j rs ws os (doR W T ⟨13,op,a,bq,c,x⟩ mark) w):=by
 obtain⟨U,hU⟩:∃ U,U=w.alloc (.cells #[.int .u8 13,.int .u8 op,.int .i64 a,.int .i64 bq,.int .i64 c,.int .i64 x] 159):=⟨_,rfl⟩
 have hBU:Below w.heap.size w U:=by rw[hU];exact ze w _
 have hO:U.heap[w.heap.size]? = some (.cells #[.int .u8 13,.int .u8 op,.int .i64 a,.int .i64 bq,.int .i64 c,.int .i64 x] 159 (0,0)):=by rw[hU];exact (MapKept.heap_alloc _ _).1
 have h1U:=h1.keeps (But.of (ls:=[]) hBU) (.refl _ _) (by simp) (by simp);have h2U:=h2.keeps (But.of (ls:=[]) hBU) (.refl _ _) (by simp) (by simp) (by simp) (by simp);have H1U:=hid h1U;have H2U:=hid h2U;have HNW:=hid hnew;have HO:=hid hO;have HBU:=hid hBU;have HU:=hid hU;have HBB:=hid (But.of (ow:=ow) (ls:=[]) hBU);obtain⟨htb,-,-,d2,-,-,-⟩:=h2U.cells;obtain⟨rg,er,hrg,hrl⟩:=h2U.regs;have hrgl:=z8 hrg;have HER:=hid er;have HRG:=hid hrg;rw[er]at d2;obtain⟨NR,hNR⟩:∃ N,N=T.regs.length:=⟨_,rfl⟩
 rw[←hNR]at d2;obtain⟨i0,i1,i2,i3,i4,i5⟩:=zl hO;have hlx:=z8 hO;have HNR:=hid hNR;clear h1 h2 hU hBU hO h1U h2U er hrg hrl hNR hnew;have c0:=i0;have c1:=i1;have c2:=i2;have c3:=i3;have c4:=i4;have c5:=i5;rw[HU.out]at i0 i1 i2 i3 i4 i5;go_enter Tryz.func197,Tryz.ntmps197;go_wp2_with fail;have HY:=hid (show doR W T ⟨13,op,a,bq,c,x⟩ mark=(W,T,(0:Int))from by simp[doR]);rw[←HU.out];go_ret;rw[HY.out];have hb5:Below U.heap.size U U:=Below.refl _ _;exact⟨rfl,ow,v,.refl _ _,H1U.out.keeps (But.of (ls:=[]) hb5) (.refl _ _) (by simp) (by simp),H2U.out.keeps (But.of (ls:=[]) hb5) (.refl _ _) (by simp) (by simp) (by simp) (by simp),zw (zi (l:=[]) (m:=[1,2,10+8*j]) HBB.out (by simp)) (zi (l:=[]) (m:=[1,2,10+8*j]) (But.of hb5) (by simp))⟩
