import Derived.Test.YtlboinokdhmacaaGreatDoorRwAt
namespace Go.Proofs.YtlboinokdhmacaaGreatDoor
set_option maxHeartbeats 64000000
set_option maxRecDepth 1000000
open Lib(hid)
open Go.RowKit
attribute [local go_sem ↓] zL zJ
def QDo (ow:Nat→Nat) (b:Nat) (wd:Int) (tv tw:Value) (n:Int) (tb o j:Nat) (rs ws os:Value) (r:WS × RT × Int) (w:World) (e:Ending) (w':World):Prop:=
 e = .returned (.int .u8 r.2.2)∧∃ ow' v',Ext ow ow' w∧QW ow' w' b wd tv tw r.1 n v'∧QT ow' w' tb o j r.2.1 rs ws os∧But ow [1,2,10+8*j] w w'
theorem QT.setR {ow:Nat→Nat} {w:World} {tb o j:Nat} {T:RT} {rs ws os:Value} (h:QT ow w tb o j T rs ws os) {rg:Nat} (hrg:rs = .slice (some ⟨rg,0,none⟩) T.regs.length T.regs.length) (a:Nat) (x:Int) :
 QT ow (w.setCell ⟨rg,a,none⟩ (.int .i64 x)) tb o j (T.setR (a:Int) x) rs ws os∧But ow [10+8*j] w (w.setCell ⟨rg,a,none⟩ (.int .i64 x)):=by
 obtain⟨rg',r1,r2,r3⟩:=h.regs;have e:rg'=rg:=by rw[r1]at hrg;cases hrg;rfl
 subst e;have hb:But ow [10+8*j] w (w.setCell ⟨rg',a,none⟩ (.int .i64 x)):=(But.of (Below.refl _ _)).set (p:=⟨rg',a,none⟩) (by simp[r3]) _;obtain⟨cur,hc,hr⟩:=h.row
 have hset:(w.setCell ⟨rg',a,none⟩ (.int .i64 x)).heap[rg']? = some (.cells (wds (T.regs.set a x)).toArray 2 (0,0)):=by
  simp only[World.setCell,Array.getElem?_modify,if_true,r2];simp[wds,List.map_set]
 have hl:(T.setR (a:Int) x).regs=T.regs.set a x:=by simp[RT.setR]
 refine⟨⟨⟨cur,(hb.block tb (z8 hc) (by rw[h.lab];simp;omega)).trans hc,hr⟩,h.lab,⟨rg', ?_, ?_,r3⟩,h.wait.keeps hb (.refl _ _) (by simp),h.out.keeps hb (.refl _ _) (by simp)⟩,hb⟩
 · rw[hl,List.length_set];exact r1
 · rw[hl];exact hset
theorem QW.setM {ow:Nat→Nat} {w:World} {b:Nat} {wd:Int} {tv tw:Value} {W:WS} {n:Int} {v:Value} (h:QW ow w b wd tv tw W n v) (a:Nat) (ha:a<W.words.length) :
 ∃ wg cap y,v = .slice (some ⟨wg,0,none⟩) W.words.length cap∧wg<w.heap.size∧W.words[a]? = some y∧w.cell? ⟨wg,a,none⟩ = some (.int .i64 y)∧w.frozen? ⟨wg,a,none⟩ = false∧ow wg=2 ∧
  ∀ x,QW ow (w.setCell ⟨wg,a,none⟩ (.int .i64 x)) b wd tv tw { W with words:=W.words.set a x } n v∧But ow [2] w (w.setCell ⟨wg,a,none⟩ (.int .i64 x)):=by
 rcases h.row.2 with ⟨_,h0⟩|⟨g,cap,cur,rfl,hb,hg,hn,hc,hs,ht⟩
 · omega
 · have hlab:ow g=2:=h.labr g rfl
   rw[Nat.mul_one]at ht hs;have hya:W.words[a]? = some W.words[a]:=List.getElem?_eq_getElem ha
   have hca:cur[a]? = some (.int .i64 W.words[a]):=by
    have:(cur.toList.take W.words.length)[a]? = (wds W.words)[a]?:=by rw[ht]
    rw[List.getElem?_take,if_pos ha,wds,List.getElem?_map,hya]at this
    simpa using this
   refine⟨g,cap,_,rfl,z8 hg,hya,by rw[Lib.cell_of_heap hg];exact hca,Lib.frozen_of_heap hg a,hlab,fun x=>?_⟩;have hbut:But ow [2] w (w.setCell ⟨g,a,none⟩ (.int .i64 x)):=(But.of (Below.refl _ _)).set (p:=⟨g,a,none⟩) (by simp[hlab]) _;refine⟨⟨(hbut.block b (z8 h.box) (by rw[h.lab];simp)).trans h.box,⟨by simp[wds],.inr ⟨g,cap,cur.setIfInBounds a (.int .i64 x),by simp,hb,heap_setCell_same w g a _ _ _ hg,by simpa using hn,hc,by simpa using hs, ?_⟩⟩,h.lab,h.labr,by simpa using h.many⟩,hbut⟩;simp only[List.length_set,Nat.mul_one,Array.toList_setIfInBounds,wds,List.map_set];rw[List.take_set,ht];simp[wds]
theorem QW.odd {ow:Nat→Nat} {w:World} {b:Nat} {wd:Int} {tv tw:Value} {W:WS} {n:Int} {v:Value} (h:QW ow w b wd tv tw W n v):QW ow (w.setCell ⟨b,5,none⟩ (.bool true)) b wd tv tw { W with strange:=true } n v∧But ow [1] w (w.setCell ⟨b,5,none⟩ (.bool true)):=by
 have hb:But ow [1] w (w.setCell ⟨b,5,none⟩ (.bool true)):=(But.of (Below.refl _ _)).set (p:=⟨b,5,none⟩) (by simp[h.lab]) _;refine⟨⟨?_,zM h.row hb h.labr (by simp),h.lab,h.labr,h.many⟩,hb⟩;rw[heap_setCell_same w b 5 _ _ _ h.box]
 rfl
theorem Vv {ow:Nat→Nat} {w:World} {b:Nat} {wd:Int} {tv tw:Value} {W:WS} {n:Int} {v:Value} {tb o j:Nat} {T:RT} {rs ws os:Value} (h1:QW ow w b wd tv tw W n v) (h2:QT ow w tb o j T rs ws os) (hnew:∀ k,w.heap.size≤k→ow k=0) (op:Int) (aa bb:Nat) (c x:Int) (mark:Nat) (ha:aa<T.regs.length) (hb:bb<T.regs.length) (hc:c<0∨yj T.regs.length c) :
 Calls Tryz.prog 221 #[.pointer (some ⟨b,0,none⟩),.pointer (some ⟨tb,o,none⟩),.agg #[.int .u8 8,.int .u8 op,.int .i64 (aa:Int),.int .i64 (bb:Int),.int .i64 c,.int .i64 x],.int .i64 (mark:Int)] w (QDo ow b wd tv tw n tb o j rs ws os (zY W T ⟨8,op,(aa:Int),(bb:Int),c,x⟩ mark) w):=by
 obtain⟨U,hU⟩:∃ U,U=w.alloc (.cells #[.int .u8 8,.int .u8 op,.int .i64 (aa:Int),.int .i64 (bb:Int),.int .i64 c,.int .i64 x] 159):=⟨_,rfl⟩
 have hBU:Below w.heap.size w U:=by rw[hU];exact ze w _
 have hO:U.heap[w.heap.size]? = some (.cells #[.int .u8 8,.int .u8 op,.int .i64 (aa:Int),.int .i64 (bb:Int),.int .i64 c,.int .i64 x] 159 (0,0)):=by rw[hU];exact (MapKept.heap_alloc _ _).1
 have h1U:=h1.keeps (But.of (ls:=[]) hBU) (.refl _ _) (by simp) (by simp);have h2U:=h2.keeps (But.of (ls:=[]) hBU) (.refl _ _) (by simp) (by simp) (by simp) (by simp);have HWD:=hid (jY h2U 8 op (aa:Int) bb c x hb hc);have H1U:=hid h1U;have H2U:=hid h2U;have HOX:=hid (hnew w.heap.size (Nat.le_refl _));have HAA:=hid ha;obtain⟨i0,i1,i2,i3,i4,i5⟩:=zl hO;have HO:=hid hO;have HBU:=hid hBU;have HU:=hid hU;rw[hU]at i0 i1 i2 i3 i4 i5;obtain⟨at',hat⟩:∃ y,y=wH T ⟨8,op,(aa:Int),(bb:Int),c,x⟩:=⟨_,rfl⟩
 rw[←hat]at HWD;have HAT:=hid hat.symm;clear h1 h2 hU hBU hO h1U h2U hat hnew ha hb hc;go_enter Tryz.func221,Tryz.ntmps221;go_wp2_with fail;rw[←HU.out];refine HWD.out.mono ?_;rintro e w2 ⟨rfl,hb2⟩;have H1:=hid (H1U.out.keeps (But.of (ls:=[]) hb2) (.refl _ _) (by simp) (by simp));have H2:=hid (H2U.out.keeps (But.of (ls:=[]) hb2) (.refl _ _) (by simp) (by simp) (by simp) (by simp));have HB2:=hid (But.of (ow:=ow) (ls:=[]) (HBU.out.trans (hb2.mono HBU.out.size)));have hx2:=(hb2.block w.heap.size (z8 HO.out)).trans HO.out;have HX:=hid hx2;have hlx:=z8 hx2;have HTH:=hid (jZ H1.out at');clear hb2 i0 i1 i2 i3 i4 i5;obtain⟨q0,q1,q2,q3,q4,q5⟩:=zl hx2;obtain⟨hcm,-,-,d2,-,-,-⟩:=H2.out.cells;have e5:=zh H1.out.box 5 _ rfl;have ef:=Lib.frozen_of_heap H1.out.box 5;have hlb2:=z8 H1.out.box;clear hx2;go_wp2_with fail;refine HTH.out.mono ?_;rintro e w5 ⟨rfl,rfl⟩;cases hh:wz W at' with
 | false =>
  have HY:=hid (show zY W T ⟨8,op,(aa:Int),(bb:Int),c,x⟩ mark=(W,T,(8:Int))from by unfold zY;rw[HAT.out,if_neg (by rw[hh];exact Bool.false_ne_true)]);go_wp2_with fail;go_ret;rw[HY.out];exact⟨rfl,ow,v,.refl _ _,H1.out,H2.out,zi HB2.out (by simp)⟩
 | true =>
  obtain⟨m,hm⟩:∃ m:Nat,at'=(m:Int):=⟨at'.toNat,by unfold wz at hh;simp only[Bool.and_eq_true,decide_eq_true_eq]at hh;omega⟩
  subst hm;have HML:=hid (show m<W.words.length from by unfold wz at hh;simp only[Bool.and_eq_true,decide_eq_true_eq]at hh;omega);have HAS:=hid hh;clear hh
  have HY:=hid (show zY W T ⟨8,op,(aa:Int),(bb:Int),c,x⟩ mark=(W,T.setR (aa:Int) ((W.words[m]?).getD 0),(0:Int))from by
   unfold zY wu;rw[HAT.out,Int.toNat_natCast,if_pos HAS.out];simp)
  go_wp2_with fail;obtain⟨w3,hw3⟩:∃ w3,w3=w2:=⟨_,rfl⟩
  subst hw3;have HB3:=hid (zi (l:=[]) (m:=[1,2,10+8*j]) HB2.out (by simp));have h13:=H1.out;have h23:=H2.out;have hx3:=HX.out;clear q0 q1 q2 q3 q4 q5 d2 hcm ef hlx
  try clear e5
  refine yJ 14 (by kernel_rfl) (by kernel_rfl) (fun w4 hw4=>?_);have hb4:=db hw4;have HB4:=hid (zw HB3.out (zi (l:=[]) (m:=[1,2,10+8*j]) (But.of hb4) (by simp)));have h14:=h13.keeps (But.of (ls:=[]) hb4) (.refl _ _) (by simp) (by simp);have h24:=h23.keeps (But.of (ls:=[]) hb4) (.refl _ _) (by simp) (by simp) (by simp) (by simp);have hx4:=(hb4.block w.heap.size (z8 hx3)).trans hx3;have hl4:=z8 hx4;obtain⟨q0,q1,q2,q3,q4,q5⟩:=zl hx4;obtain⟨htb,-,-,d2,-,-,-⟩:=h24.cells;have hq:=zh h14.box 2 v rfl;have hlb:=z8 h14.box;obtain⟨rg,er,hrg,hrl⟩:=h24.regs;obtain⟨wg,cap,y,ev,hwg,hy,hcell,hfz,hlab,hset⟩:=h14.setM m HML.out;have hrgl:=z8 hrg;obtain⟨z,hz⟩:∃ z,T.regs[aa]? = some z:=⟨_,List.getElem?_eq_getElem HAA.out⟩
  have s1:=zT hrg aa z hz;have f1:=Lib.frozen_of_heap hrg aa;have hm8:T.regs.length≤maxLen∨True:=.inr trivial;rw[er]at d2;rw[ev]at hq;obtain⟨NR,hNR⟩:∃ N,N=T.regs.length:=⟨_,rfl⟩
  obtain⟨NW,hNW⟩:∃ N,N=W.words.length:=⟨_,rfl⟩
  have ha1:aa<NR:=by rw[hNR];exact HAA.out
  have hm1:m<NW:=by rw[hNW];exact HML.out
  rw[←hNR]at d2;rw[←hNW]at hq;have HR:=hid (h24.setR er aa y);have H14:=hid h14;have HYV:=hid (show (W.words[m]?).getD 0=y from by rw[show W.words[m]? = some y from hy];rfl);clear hw4 hb4 h13 h23 hx3 h14 h24 hx4 er hrg hrl ev hy hset hz hNR hNW hlab hm8;simp only[List.take_succ_cons,List.take_zero,List.drop_succ_cons,List.drop_zero]
  repeat still_step
  refine wpStill_nil ?_;go_wp2_with fail;go_ret;rw[HY.out];rw[HYV.out];exact⟨rfl,ow,v,.refl _ _,H14.out.keeps HR.out.2 (.refl _ _) (by simp;omega) (by simp;omega),HR.out.1,zw HB4.out (zi HR.out.2 (by simp))⟩
theorem Vu {ow:Nat→Nat} {w:World} {b:Nat} {wd:Int} {tv tw:Value} {W:WS} {n:Int} {v:Value} {tb o j:Nat} {T:RT} {rs ws os:Value} (h1:QW ow w b wd tv tw W n v) (h2:QT ow w tb o j T rs ws os) (hnew:∀ k,w.heap.size≤k→ow k=0) (op:Int) (aa bb:Nat) (c x:Int) (mark:Nat) (ha:aa<T.regs.length) (hb:bb<T.regs.length) (hc:c<0∨yj T.regs.length c) :
 Calls Tryz.prog 221 #[.pointer (some ⟨b,0,none⟩),.pointer (some ⟨tb,o,none⟩),.agg #[.int .u8 9,.int .u8 op,.int .i64 (aa:Int),.int .i64 (bb:Int),.int .i64 c,.int .i64 x],.int .i64 (mark:Int)] w (QDo ow b wd tv tw n tb o j rs ws os (zY W T ⟨9,op,(aa:Int),(bb:Int),c,x⟩ mark) w):=by
 obtain⟨U,hU⟩:∃ U,U=w.alloc (.cells #[.int .u8 9,.int .u8 op,.int .i64 (aa:Int),.int .i64 (bb:Int),.int .i64 c,.int .i64 x] 159):=⟨_,rfl⟩
 have hBU:Below w.heap.size w U:=by rw[hU];exact ze w _
 have hO:U.heap[w.heap.size]? = some (.cells #[.int .u8 9,.int .u8 op,.int .i64 (aa:Int),.int .i64 (bb:Int),.int .i64 c,.int .i64 x] 159 (0,0)):=by rw[hU];exact (MapKept.heap_alloc _ _).1
 have h1U:=h1.keeps (But.of (ls:=[]) hBU) (.refl _ _) (by simp) (by simp);have h2U:=h2.keeps (But.of (ls:=[]) hBU) (.refl _ _) (by simp) (by simp) (by simp) (by simp);have HWD:=hid (jY h2U 9 op (aa:Int) bb c x hb hc);have H1U:=hid h1U;have H2U:=hid h2U;have HOX:=hid (hnew w.heap.size (Nat.le_refl _));have HAA:=hid ha;obtain⟨i0,i1,i2,i3,i4,i5⟩:=zl hO;have HO:=hid hO;have HBU:=hid hBU;have HU:=hid hU;rw[hU]at i0 i1 i2 i3 i4 i5;obtain⟨at',hat⟩:∃ y,y=wH T ⟨9,op,(aa:Int),(bb:Int),c,x⟩:=⟨_,rfl⟩
 rw[←hat]at HWD;have HAT:=hid hat.symm;clear h1 h2 hU hBU hO h1U h2U hat hnew ha hb hc;go_enter Tryz.func221,Tryz.ntmps221;go_wp2_with fail;rw[←HU.out];refine HWD.out.mono ?_;rintro e w2 ⟨rfl,hb2⟩;have H1:=hid (H1U.out.keeps (But.of (ls:=[]) hb2) (.refl _ _) (by simp) (by simp));have H2:=hid (H2U.out.keeps (But.of (ls:=[]) hb2) (.refl _ _) (by simp) (by simp) (by simp) (by simp));have HB2:=hid (But.of (ow:=ow) (ls:=[]) (HBU.out.trans (hb2.mono HBU.out.size)));have hx2:=(hb2.block w.heap.size (z8 HO.out)).trans HO.out;have HX:=hid hx2;have hlx:=z8 hx2;have HTH:=hid (jZ H1.out at');clear hb2 i0 i1 i2 i3 i4 i5;obtain⟨q0,q1,q2,q3,q4,q5⟩:=zl hx2;obtain⟨hcm,-,-,d2,-,-,-⟩:=H2.out.cells;have e5:=zh H1.out.box 5 _ rfl;have ef:=Lib.frozen_of_heap H1.out.box 5;have hlb2:=z8 H1.out.box;clear hx2;go_wp2_with fail;refine HTH.out.mono ?_;rintro e w5 ⟨rfl,rfl⟩;cases hh:wz W at' with
 | false =>
  have HY:=hid (show zY W T ⟨9,op,(aa:Int),(bb:Int),c,x⟩ mark=(W,T,(8:Int))from by unfold zY;rw[HAT.out,if_neg (by rw[hh];exact Bool.false_ne_true)]);go_wp2_with fail;go_ret;rw[HY.out];exact⟨rfl,ow,v,.refl _ _,H1.out,H2.out,zi HB2.out (by simp)⟩
 | true =>
  obtain⟨m,hm⟩:∃ m:Nat,at'=(m:Int):=⟨at'.toNat,by unfold wz at hh;simp only[Bool.and_eq_true,decide_eq_true_eq]at hh;omega⟩
  subst hm;have HML:=hid (show m<W.words.length from by unfold wz at hh;simp only[Bool.and_eq_true,decide_eq_true_eq]at hh;omega);have HAS:=hid hh;clear hh
  have HY:=hid (show zY W T ⟨9,op,(aa:Int),(bb:Int),c,x⟩ mark=(({ words:=W.words.set m (T.reg (aa:Int)),strange:=W.strange }:WS),T,(0:Int))from by
   unfold zY wu;rw[HAT.out,Int.toNat_natCast,if_pos HAS.out];simp)
  go_wp2_with fail;obtain⟨w3,hw3⟩:∃ w3,w3=w2:=⟨_,rfl⟩
  subst hw3;have HB3:=hid (zi (l:=[]) (m:=[1,2,10+8*j]) HB2.out (by simp));have h13:=H1.out;have h23:=H2.out;have hx3:=HX.out;clear q0 q1 q2 q3 q4 q5 d2 hcm ef hlx
  try clear e5
  refine yJ 14 (by kernel_rfl) (by kernel_rfl) (fun w4 hw4=>?_);have hb4:=db hw4;have HB4:=hid (zw HB3.out (zi (l:=[]) (m:=[1,2,10+8*j]) (But.of hb4) (by simp)));have h14:=h13.keeps (But.of (ls:=[]) hb4) (.refl _ _) (by simp) (by simp);have h24:=h23.keeps (But.of (ls:=[]) hb4) (.refl _ _) (by simp) (by simp) (by simp) (by simp);have hx4:=(hb4.block w.heap.size (z8 hx3)).trans hx3;have hl4:=z8 hx4;obtain⟨q0,q1,q2,q3,q4,q5⟩:=zl hx4;obtain⟨htb,-,-,d2,-,-,-⟩:=h24.cells;have hq:=zh h14.box 2 v rfl;have hlb:=z8 h14.box;obtain⟨rg,er,hrg,hrl⟩:=h24.regs;obtain⟨wg,cap,y,ev,hwg,hy,hcell,hfz,hlab,hset⟩:=h14.setM m HML.out;have hrgl:=z8 hrg;obtain⟨z,hz⟩:∃ z,T.regs[aa]? = some z:=⟨_,List.getElem?_eq_getElem HAA.out⟩
  have s1:=zT hrg aa z hz;have f1:=Lib.frozen_of_heap hrg aa;have hm8:T.regs.length≤maxLen∨True:=.inr trivial;rw[er]at d2;rw[ev]at hq;obtain⟨NR,hNR⟩:∃ N,N=T.regs.length:=⟨_,rfl⟩
  obtain⟨NW,hNW⟩:∃ N,N=W.words.length:=⟨_,rfl⟩
  have ha1:aa<NR:=by rw[hNR];exact HAA.out
  have hm1:m<NW:=by rw[hNW];exact HML.out
  rw[←hNR]at d2;rw[←hNW]at hq;have HR:=hid (hset z);have H24:=hid h24;have HZV:=hid (wD hz);clear hw4 hb4 h13 h23 hx3 h14 h24 hx4 er hrg hrl ev hy hset hz hNR hNW hlab hm8;simp only[List.take_succ_cons,List.take_zero,List.drop_succ_cons,List.drop_zero]
  repeat still_step
  refine wpStill_nil ?_;go_wp2_with fail;go_ret;rw[HY.out];rw[HZV.out];exact⟨rfl,ow,v,.refl _ _,HR.out.1,H24.out.keeps HR.out.2 (.refl _ _) (by simp) (by simp;omega) (by simp;omega) (by simp;omega),zw HB4.out (zi HR.out.2 (by simp))⟩
theorem Vx {ow:Nat→Nat} {w:World} {b:Nat} {wd:Int} {tv tw:Value} {W:WS} {n:Int} {v:Value} {tb o j:Nat} {T:RT} {rs ws os:Value} (h1:QW ow w b wd tv tw W n v) (h2:QT ow w tb o j T rs ws os) (hnew:∀ k,w.heap.size≤k→ow k=0) (op:Int) (aa bb:Nat) (c x:Int) (mark:Nat) (ha:aa<T.regs.length) (hb:bb<T.regs.length) (hc:c<0∨yj T.regs.length c) :
 Calls Tryz.prog 221 #[.pointer (some ⟨b,0,none⟩),.pointer (some ⟨tb,o,none⟩),.agg #[.int .u8 10,.int .u8 op,.int .i64 (aa:Int),.int .i64 (bb:Int),.int .i64 c,.int .i64 x],.int .i64 (mark:Int)] w (QDo ow b wd tv tw n tb o j rs ws os (zY W T ⟨10,op,(aa:Int),(bb:Int),c,x⟩ mark) w):=by
 obtain⟨U,hU⟩:∃ U,U=w.alloc (.cells #[.int .u8 10,.int .u8 op,.int .i64 (aa:Int),.int .i64 (bb:Int),.int .i64 c,.int .i64 x] 159):=⟨_,rfl⟩
 have hBU:Below w.heap.size w U:=by rw[hU];exact ze w _
 have hO:U.heap[w.heap.size]? = some (.cells #[.int .u8 10,.int .u8 op,.int .i64 (aa:Int),.int .i64 (bb:Int),.int .i64 c,.int .i64 x] 159 (0,0)):=by rw[hU];exact (MapKept.heap_alloc _ _).1
 have h1U:=h1.keeps (But.of (ls:=[]) hBU) (.refl _ _) (by simp) (by simp);have h2U:=h2.keeps (But.of (ls:=[]) hBU) (.refl _ _) (by simp) (by simp) (by simp) (by simp);have HWD:=hid (jY h2U 10 op (aa:Int) bb c x hb hc);have H1U:=hid h1U;have H2U:=hid h2U;have HOX:=hid (hnew w.heap.size (Nat.le_refl _));have HAA:=hid ha;obtain⟨i0,i1,i2,i3,i4,i5⟩:=zl hO;have HO:=hid hO;have HBU:=hid hBU;have HU:=hid hU;rw[hU]at i0 i1 i2 i3 i4 i5;obtain⟨at',hat⟩:∃ y,y=wH T ⟨10,op,(aa:Int),(bb:Int),c,x⟩:=⟨_,rfl⟩
 rw[←hat]at HWD;have HAT:=hid hat.symm;clear h1 h2 hU hBU hO h1U h2U hat hnew ha hb hc;go_enter Tryz.func221,Tryz.ntmps221;go_wp2_with fail;rw[←HU.out];refine HWD.out.mono ?_;rintro e w2 ⟨rfl,hb2⟩;have H1:=hid (H1U.out.keeps (But.of (ls:=[]) hb2) (.refl _ _) (by simp) (by simp));have H2:=hid (H2U.out.keeps (But.of (ls:=[]) hb2) (.refl _ _) (by simp) (by simp) (by simp) (by simp));have HB2:=hid (But.of (ow:=ow) (ls:=[]) (HBU.out.trans (hb2.mono HBU.out.size)));have hx2:=(hb2.block w.heap.size (z8 HO.out)).trans HO.out;have HX:=hid hx2;have hlx:=z8 hx2;have HTH:=hid (jZ H1.out at');clear hb2 i0 i1 i2 i3 i4 i5;obtain⟨q0,q1,q2,q3,q4,q5⟩:=zl hx2;obtain⟨hcm,-,-,d2,-,-,-⟩:=H2.out.cells;have e5:=zh H1.out.box 5 _ rfl;have ef:=Lib.frozen_of_heap H1.out.box 5;have hlb2:=z8 H1.out.box;clear hx2;go_wp2_with fail;refine HTH.out.mono ?_;rintro e w5 ⟨rfl,rfl⟩;cases hh:wz W at' with
 | false =>
  have HY:=hid (show zY W T ⟨10,op,(aa:Int),(bb:Int),c,x⟩ mark=(W,T,(8:Int))from by unfold zY;rw[HAT.out,if_neg (by rw[hh];exact Bool.false_ne_true)]);go_wp2_with fail;go_ret;rw[HY.out];exact⟨rfl,ow,v,.refl _ _,H1.out,H2.out,zi HB2.out (by simp)⟩
 | true =>
  obtain⟨m,hm⟩:∃ m:Nat,at'=(m:Int):=⟨at'.toNat,by unfold wz at hh;simp only[Bool.and_eq_true,decide_eq_true_eq]at hh;omega⟩
  subst hm;have HML:=hid (show m<W.words.length from by unfold wz at hh;simp only[Bool.and_eq_true,decide_eq_true_eq]at hh;omega);have HAS:=hid hh;clear hh
  by_cases hlo:(m:Int)<(mark:Int)
  · have LO:=hid hlo
    have hlo1:decide ((m:Int)<(mark:Int))=true:=by simpa using hlo
    have HY:=hid (show zY W T ⟨10,op,(aa:Int),(bb:Int),c,x⟩ mark=(({ W with strange:=true }:WS),T.setR (aa:Int) ((W.words[m]?).getD 0),(0:Int))from by
     unfold zY wu;rw[HAT.out,Int.toNat_natCast,if_pos HAS.out];simp[LO.out])
    go_wp2_with fail;obtain⟨w3,hw3⟩:∃ w3,w3=w2.setCell ⟨b,5,none⟩ (.bool true):=⟨_,rfl⟩
    rw[←hw3];have ho:=H1.out.odd;rw[←hw3]at ho;have HB3:=hid (zw (zi (l:=[]) (m:=[1,2,10+8*j]) HB2.out (by simp)) (zi ho.2 (by simp)));have h13:=ho.1;have h23:=H2.out.keeps ho.2 (.refl _ _) (by simp <;> omega) (by simp <;> omega) (by simp <;> omega) (by simp <;> omega);have hx3:=(ho.2.block w.heap.size hlx (by rw[HOX.out];simp)).trans HX.out;clear ho hw3;clear q0 q1 q2 q3 q4 q5 d2 hcm ef hlx
    try clear e5
    refine yJ 14 (by kernel_rfl) (by kernel_rfl) (fun w4 hw4=>?_);have hb4:=db hw4;have HB4:=hid (zw HB3.out (zi (l:=[]) (m:=[1,2,10+8*j]) (But.of hb4) (by simp)));have h14:=h13.keeps (But.of (ls:=[]) hb4) (.refl _ _) (by simp) (by simp);have h24:=h23.keeps (But.of (ls:=[]) hb4) (.refl _ _) (by simp) (by simp) (by simp) (by simp);have hx4:=(hb4.block w.heap.size (z8 hx3)).trans hx3;have hl4:=z8 hx4;obtain⟨q0,q1,q2,q3,q4,q5⟩:=zl hx4;obtain⟨htb,-,-,d2,-,-,-⟩:=h24.cells;have hq:=zh h14.box 2 v rfl;have hlb:=z8 h14.box;obtain⟨rg,er,hrg,hrl⟩:=h24.regs;obtain⟨wg,cap,y,ev,hwg,hy,hcell,hfz,hlab,hset⟩:=h14.setM m HML.out;have hrgl:=z8 hrg;obtain⟨z,hz⟩:∃ z,T.regs[aa]? = some z:=⟨_,List.getElem?_eq_getElem HAA.out⟩
    have s1:=zT hrg aa z hz;have f1:=Lib.frozen_of_heap hrg aa;have hm8:T.regs.length≤maxLen∨True:=.inr trivial;rw[er]at d2;rw[ev]at hq;obtain⟨NR,hNR⟩:∃ N,N=T.regs.length:=⟨_,rfl⟩
    obtain⟨NW,hNW⟩:∃ N,N=W.words.length:=⟨_,rfl⟩
    have ha1:aa<NR:=by rw[hNR];exact HAA.out
    have hm1:m<NW:=by rw[hNW];exact HML.out
    rw[←hNR]at d2;rw[←hNW]at hq;have HR:=hid (h24.setR er aa y);have H14:=hid h14;have HYV:=hid (show (W.words[m]?).getD 0=y from by rw[show W.words[m]? = some y from hy];rfl);clear hw4 hb4 h13 h23 hx3 h14 h24 hx4 er hrg hrl ev hy hset hz hNR hNW hlab hm8;simp only[List.take_succ_cons,List.take_zero,List.drop_succ_cons,List.drop_zero]
    repeat still_step
    refine wpStill_nil ?_;go_wp2_with fail;go_ret;rw[HY.out];rw[HYV.out];exact⟨rfl,ow,v,.refl _ _,H14.out.keeps HR.out.2 (.refl _ _) (by simp;omega) (by simp;omega),HR.out.1,zw HB4.out (zi HR.out.2 (by simp))⟩
  · have LO:=hid hlo
    have hlo1:decide ((m:Int)<(mark:Int))=false:=by simpa using hlo
    have hlo2:decide (m<mark)=false:=by simp;omega
    have hlo3:¬ m<mark:=by omega
    clear hlo
    have HY:=hid (show zY W T ⟨10,op,(aa:Int),(bb:Int),c,x⟩ mark=(W,T.setR (aa:Int) ((W.words[m]?).getD 0),(0:Int))from by
     unfold zY wu;rw[HAT.out,Int.toNat_natCast,if_pos HAS.out];simp[LO.out])
    go_wp2_with fail;obtain⟨w3,hw3⟩:∃ w3,w3=w2:=⟨_,rfl⟩
    subst hw3;have HB3:=hid (zi (l:=[]) (m:=[1,2,10+8*j]) HB2.out (by simp));have h13:=H1.out;have h23:=H2.out;have hx3:=HX.out;clear q0 q1 q2 q3 q4 q5 d2 hcm ef hlx
    try clear e5
    refine yJ 14 (by kernel_rfl) (by kernel_rfl) (fun w4 hw4=>?_);have hb4:=db hw4;have HB4:=hid (zw HB3.out (zi (l:=[]) (m:=[1,2,10+8*j]) (But.of hb4) (by simp)));have h14:=h13.keeps (But.of (ls:=[]) hb4) (.refl _ _) (by simp) (by simp);have h24:=h23.keeps (But.of (ls:=[]) hb4) (.refl _ _) (by simp) (by simp) (by simp) (by simp);have hx4:=(hb4.block w.heap.size (z8 hx3)).trans hx3;have hl4:=z8 hx4;obtain⟨q0,q1,q2,q3,q4,q5⟩:=zl hx4;obtain⟨htb,-,-,d2,-,-,-⟩:=h24.cells;have hq:=zh h14.box 2 v rfl;have hlb:=z8 h14.box;obtain⟨rg,er,hrg,hrl⟩:=h24.regs;obtain⟨wg,cap,y,ev,hwg,hy,hcell,hfz,hlab,hset⟩:=h14.setM m HML.out;have hrgl:=z8 hrg;obtain⟨z,hz⟩:∃ z,T.regs[aa]? = some z:=⟨_,List.getElem?_eq_getElem HAA.out⟩
    have s1:=zT hrg aa z hz;have f1:=Lib.frozen_of_heap hrg aa;have hm8:T.regs.length≤maxLen∨True:=.inr trivial;rw[er]at d2;rw[ev]at hq;obtain⟨NR,hNR⟩:∃ N,N=T.regs.length:=⟨_,rfl⟩
    obtain⟨NW,hNW⟩:∃ N,N=W.words.length:=⟨_,rfl⟩
    have ha1:aa<NR:=by rw[hNR];exact HAA.out
    have hm1:m<NW:=by rw[hNW];exact HML.out
    rw[←hNR]at d2;rw[←hNW]at hq;have HR:=hid (h24.setR er aa y);have H14:=hid h14;have HYV:=hid (show (W.words[m]?).getD 0=y from by rw[show W.words[m]? = some y from hy];rfl);clear hw4 hb4 h13 h23 hx3 h14 h24 hx4 er hrg hrl ev hy hset hz hNR hNW hlab hm8;simp only[List.take_succ_cons,List.take_zero,List.drop_succ_cons,List.drop_zero]
    repeat still_step
    refine wpStill_nil ?_;go_wp2_with fail;go_ret;rw[HY.out];rw[HYV.out];exact⟨rfl,ow,v,.refl _ _,H14.out.keeps HR.out.2 (.refl _ _) (by simp;omega) (by simp;omega),HR.out.1,zw HB4.out (zi HR.out.2 (by simp))⟩
theorem Vw {ow:Nat→Nat} {w:World} {b:Nat} {wd:Int} {tv tw:Value} {W:WS} {n:Int} {v:Value} {tb o j:Nat} {T:RT} {rs ws os:Value} (h1:QW ow w b wd tv tw W n v) (h2:QT ow w tb o j T rs ws os) (hnew:∀ k,w.heap.size≤k→ow k=0) (op:Int) (aa bb:Nat) (c x:Int) (mark:Nat) (ha:aa<T.regs.length) (hb:bb<T.regs.length) (hc:c<0∨yj T.regs.length c) :
 Calls Tryz.prog 221 #[.pointer (some ⟨b,0,none⟩),.pointer (some ⟨tb,o,none⟩),.agg #[.int .u8 11,.int .u8 op,.int .i64 (aa:Int),.int .i64 (bb:Int),.int .i64 c,.int .i64 x],.int .i64 (mark:Int)] w (QDo ow b wd tv tw n tb o j rs ws os (zY W T ⟨11,op,(aa:Int),(bb:Int),c,x⟩ mark) w):=by
 obtain⟨U,hU⟩:∃ U,U=w.alloc (.cells #[.int .u8 11,.int .u8 op,.int .i64 (aa:Int),.int .i64 (bb:Int),.int .i64 c,.int .i64 x] 159):=⟨_,rfl⟩
 have hBU:Below w.heap.size w U:=by rw[hU];exact ze w _
 have hO:U.heap[w.heap.size]? = some (.cells #[.int .u8 11,.int .u8 op,.int .i64 (aa:Int),.int .i64 (bb:Int),.int .i64 c,.int .i64 x] 159 (0,0)):=by rw[hU];exact (MapKept.heap_alloc _ _).1
 have h1U:=h1.keeps (But.of (ls:=[]) hBU) (.refl _ _) (by simp) (by simp);have h2U:=h2.keeps (But.of (ls:=[]) hBU) (.refl _ _) (by simp) (by simp) (by simp) (by simp);have HWD:=hid (jY h2U 11 op (aa:Int) bb c x hb hc);have H1U:=hid h1U;have H2U:=hid h2U;have HOX:=hid (hnew w.heap.size (Nat.le_refl _));have HAA:=hid ha;obtain⟨i0,i1,i2,i3,i4,i5⟩:=zl hO;have HO:=hid hO;have HBU:=hid hBU;have HU:=hid hU;rw[hU]at i0 i1 i2 i3 i4 i5;obtain⟨at',hat⟩:∃ y,y=wH T ⟨11,op,(aa:Int),(bb:Int),c,x⟩:=⟨_,rfl⟩
 rw[←hat]at HWD;have HAT:=hid hat.symm;clear h1 h2 hU hBU hO h1U h2U hat hnew ha hb hc;go_enter Tryz.func221,Tryz.ntmps221;go_wp2_with fail;rw[←HU.out];refine HWD.out.mono ?_;rintro e w2 ⟨rfl,hb2⟩;have H1:=hid (H1U.out.keeps (But.of (ls:=[]) hb2) (.refl _ _) (by simp) (by simp));have H2:=hid (H2U.out.keeps (But.of (ls:=[]) hb2) (.refl _ _) (by simp) (by simp) (by simp) (by simp));have HB2:=hid (But.of (ow:=ow) (ls:=[]) (HBU.out.trans (hb2.mono HBU.out.size)));have hx2:=(hb2.block w.heap.size (z8 HO.out)).trans HO.out;have HX:=hid hx2;have hlx:=z8 hx2;have HTH:=hid (jZ H1.out at');clear hb2 i0 i1 i2 i3 i4 i5;obtain⟨q0,q1,q2,q3,q4,q5⟩:=zl hx2;obtain⟨hcm,-,-,d2,-,-,-⟩:=H2.out.cells;have e5:=zh H1.out.box 5 _ rfl;have ef:=Lib.frozen_of_heap H1.out.box 5;have hlb2:=z8 H1.out.box;clear hx2;go_wp2_with fail;refine HTH.out.mono ?_;rintro e w5 ⟨rfl,rfl⟩;cases hh:wz W at' with
 | false =>
  have HY:=hid (show zY W T ⟨11,op,(aa:Int),(bb:Int),c,x⟩ mark=(W,T,(8:Int))from by unfold zY;rw[HAT.out,if_neg (by rw[hh];exact Bool.false_ne_true)]);go_wp2_with fail;go_ret;rw[HY.out];exact⟨rfl,ow,v,.refl _ _,H1.out,H2.out,zi HB2.out (by simp)⟩
 | true =>
  obtain⟨m,hm⟩:∃ m:Nat,at'=(m:Int):=⟨at'.toNat,by unfold wz at hh;simp only[Bool.and_eq_true,decide_eq_true_eq]at hh;omega⟩
  subst hm;have HML:=hid (show m<W.words.length from by unfold wz at hh;simp only[Bool.and_eq_true,decide_eq_true_eq]at hh;omega);have HAS:=hid hh;clear hh
  by_cases hlo:(m:Int)<(mark:Int)
  · have LO:=hid hlo
    have hlo1:decide ((m:Int)<(mark:Int))=true:=by simpa using hlo
    have HY:=hid (show zY W T ⟨11,op,(aa:Int),(bb:Int),c,x⟩ mark=(({ words:=W.words.set m (T.reg (aa:Int)),strange:=true }:WS),T,(0:Int))from by
     unfold zY wu;rw[HAT.out,Int.toNat_natCast,if_pos HAS.out];simp[LO.out])
    go_wp2_with fail;obtain⟨w3,hw3⟩:∃ w3,w3=w2.setCell ⟨b,5,none⟩ (.bool true):=⟨_,rfl⟩
    rw[←hw3];have ho:=H1.out.odd;rw[←hw3]at ho;have HB3:=hid (zw (zi (l:=[]) (m:=[1,2,10+8*j]) HB2.out (by simp)) (zi ho.2 (by simp)));have h13:=ho.1;have h23:=H2.out.keeps ho.2 (.refl _ _) (by simp <;> omega) (by simp <;> omega) (by simp <;> omega) (by simp <;> omega);have hx3:=(ho.2.block w.heap.size hlx (by rw[HOX.out];simp)).trans HX.out;clear ho hw3;clear q0 q1 q2 q3 q4 q5 d2 hcm ef hlx
    try clear e5
    refine yJ 14 (by kernel_rfl) (by kernel_rfl) (fun w4 hw4=>?_);have hb4:=db hw4;have HB4:=hid (zw HB3.out (zi (l:=[]) (m:=[1,2,10+8*j]) (But.of hb4) (by simp)));have h14:=h13.keeps (But.of (ls:=[]) hb4) (.refl _ _) (by simp) (by simp);have h24:=h23.keeps (But.of (ls:=[]) hb4) (.refl _ _) (by simp) (by simp) (by simp) (by simp);have hx4:=(hb4.block w.heap.size (z8 hx3)).trans hx3;have hl4:=z8 hx4;obtain⟨q0,q1,q2,q3,q4,q5⟩:=zl hx4;obtain⟨htb,-,-,d2,-,-,-⟩:=h24.cells;have hq:=zh h14.box 2 v rfl;have hlb:=z8 h14.box;obtain⟨rg,er,hrg,hrl⟩:=h24.regs;obtain⟨wg,cap,y,ev,hwg,hy,hcell,hfz,hlab,hset⟩:=h14.setM m HML.out;have hrgl:=z8 hrg;obtain⟨z,hz⟩:∃ z,T.regs[aa]? = some z:=⟨_,List.getElem?_eq_getElem HAA.out⟩
    have s1:=zT hrg aa z hz;have f1:=Lib.frozen_of_heap hrg aa;have hm8:T.regs.length≤maxLen∨True:=.inr trivial;rw[er]at d2;rw[ev]at hq;obtain⟨NR,hNR⟩:∃ N,N=T.regs.length:=⟨_,rfl⟩
    obtain⟨NW,hNW⟩:∃ N,N=W.words.length:=⟨_,rfl⟩
    have ha1:aa<NR:=by rw[hNR];exact HAA.out
    have hm1:m<NW:=by rw[hNW];exact HML.out
    rw[←hNR]at d2;rw[←hNW]at hq;have HR:=hid (hset z);have H24:=hid h24;have HZV:=hid (wD hz);clear hw4 hb4 h13 h23 hx3 h14 h24 hx4 er hrg hrl ev hy hset hz hNR hNW hlab hm8;simp only[List.take_succ_cons,List.take_zero,List.drop_succ_cons,List.drop_zero]
    repeat still_step
    refine wpStill_nil ?_;go_wp2_with fail;go_ret;rw[HY.out];rw[HZV.out];exact⟨rfl,ow,v,.refl _ _,HR.out.1,H24.out.keeps HR.out.2 (.refl _ _) (by simp) (by simp;omega) (by simp;omega) (by simp;omega),zw HB4.out (zi HR.out.2 (by simp))⟩
  · have LO:=hid hlo
    have hlo1:decide ((m:Int)<(mark:Int))=false:=by simpa using hlo
    have hlo2:decide (m<mark)=false:=by simp;omega
    have hlo3:¬ m<mark:=by omega
    clear hlo
    have HY:=hid (show zY W T ⟨11,op,(aa:Int),(bb:Int),c,x⟩ mark=(({ words:=W.words.set m (T.reg (aa:Int)),strange:=W.strange }:WS),T,(0:Int))from by
     unfold zY wu;rw[HAT.out,Int.toNat_natCast,if_pos HAS.out];simp[LO.out])
    go_wp2_with fail;obtain⟨w3,hw3⟩:∃ w3,w3=w2:=⟨_,rfl⟩
    subst hw3;have HB3:=hid (zi (l:=[]) (m:=[1,2,10+8*j]) HB2.out (by simp));have h13:=H1.out;have h23:=H2.out;have hx3:=HX.out;clear q0 q1 q2 q3 q4 q5 d2 hcm ef hlx
    try clear e5
    refine yJ 14 (by kernel_rfl) (by kernel_rfl) (fun w4 hw4=>?_);have hb4:=db hw4;have HB4:=hid (zw HB3.out (zi (l:=[]) (m:=[1,2,10+8*j]) (But.of hb4) (by simp)));have h14:=h13.keeps (But.of (ls:=[]) hb4) (.refl _ _) (by simp) (by simp);have h24:=h23.keeps (But.of (ls:=[]) hb4) (.refl _ _) (by simp) (by simp) (by simp) (by simp);have hx4:=(hb4.block w.heap.size (z8 hx3)).trans hx3;have hl4:=z8 hx4;obtain⟨q0,q1,q2,q3,q4,q5⟩:=zl hx4;obtain⟨htb,-,-,d2,-,-,-⟩:=h24.cells;have hq:=zh h14.box 2 v rfl;have hlb:=z8 h14.box;obtain⟨rg,er,hrg,hrl⟩:=h24.regs;obtain⟨wg,cap,y,ev,hwg,hy,hcell,hfz,hlab,hset⟩:=h14.setM m HML.out;have hrgl:=z8 hrg;obtain⟨z,hz⟩:∃ z,T.regs[aa]? = some z:=⟨_,List.getElem?_eq_getElem HAA.out⟩
    have s1:=zT hrg aa z hz;have f1:=Lib.frozen_of_heap hrg aa;have hm8:T.regs.length≤maxLen∨True:=.inr trivial;rw[er]at d2;rw[ev]at hq;obtain⟨NR,hNR⟩:∃ N,N=T.regs.length:=⟨_,rfl⟩
    obtain⟨NW,hNW⟩:∃ N,N=W.words.length:=⟨_,rfl⟩
    have ha1:aa<NR:=by rw[hNR];exact HAA.out
    have hm1:m<NW:=by rw[hNW];exact HML.out
    rw[←hNR]at d2;rw[←hNW]at hq;have HR:=hid (hset z);have H24:=hid h24;have HZV:=hid (wD hz);clear hw4 hb4 h13 h23 hx3 h14 h24 hx4 er hrg hrl ev hy hset hz hNR hNW hlab hm8;simp only[List.take_succ_cons,List.take_zero,List.drop_succ_cons,List.drop_zero]
    repeat still_step
    refine wpStill_nil ?_;go_wp2_with fail;go_ret;rw[HY.out];rw[HZV.out];exact⟨rfl,ow,v,.refl _ _,HR.out.1,H24.out.keeps HR.out.2 (.refl _ _) (by simp) (by simp;omega) (by simp;omega) (by simp;omega),zw HB4.out (zi HR.out.2 (by simp))⟩
