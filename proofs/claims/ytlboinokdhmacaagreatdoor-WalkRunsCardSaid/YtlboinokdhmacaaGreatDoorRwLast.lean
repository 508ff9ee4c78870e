import Derived.Test.YtlboinokdhmacaaGreatDoorRwDo
namespace Go.Proofs.YtlboinokdhmacaaGreatDoor
set_option maxHeartbeats 64000000
set_option maxRecDepth 1000000
open Lib(hid)
open Go.RowKit
attribute [local go_sem ↓] zL zJ
theorem bc4 {w:World} {g o:Nat} {b:Bk} (h:∀ j u,b.cells[j]? = some u→w.cell? ⟨g,o+j,none⟩ = some u) :
 w.cell? ⟨g,o,none⟩ = some b.iv∧w.cell? ⟨g,o+1,none⟩ = some (.int .u8 b.last)∧w.cell? ⟨g,o+2,none⟩ = some (.int .i64 b.reg)∧w.cell? ⟨g,o+3,none⟩ = some (.int .i64 b.yes)∧w.cell? ⟨g,o+4,none⟩ = some (.int .i64 b.no):=bc h
structure GB (w:World) (B:Nat) (g:Gr) (k:Nat) (bk:Bk) (ro:Option Addr) (NR rc:Nat) (bo:Option Addr) (NB bc gb goff:Nat) (iq:Option Addr) (il ic:Nat):Prop where
 er:g.rv = .slice ro NR rc
 eb:g.bv = .slice bo NB bc
 hb:bo=some ⟨gb,goff,none⟩
 lt:gb<B
 kb:k<NB
 iv:bk.iv = .slice iq il ic
 len:bk.ins.length=il
 cells:w.cell? ⟨gb,goff+k*5,none⟩ = some (.slice iq il ic)∧w.cell? ⟨gb,goff+k*5+1,none⟩ = some (.int .u8 bk.last)∧w.cell? ⟨gb,goff+k*5+2,none⟩ = some (.int .i64 bk.reg)∧w.cell? ⟨gb,goff+k*5+3,none⟩ = some (.int .i64 bk.yes)∧w.cell? ⟨gb,goff+k*5+4,none⟩ = some (.int .i64 bk.no)
 ins:zB In.cells 6 w B (.slice iq il ic) bk.ins
theorem uD {w:World} {B:Nat} {g:Gr} (h:GIn w B g) {k:Nat} {bk:Bk} (hk:g.blocks[k]? = some bk):∃ ro NR rc bo NB bc gb goff iq il ic,GB w B g k bk ro NR rc bo NB bc gb goff iq il ic:=by
 obtain⟨ro,rc,er,-,-⟩:=h.rlies.form;obtain⟨bo,bc,eb,-,hbg⟩:=h.blies.form;have hkl:=(List.getElem?_eq_some_iff.1 hk).1;obtain⟨gb,goff,ebo,hgb⟩:=hbg (by omega);have hl:=h.blies;rw[eb,ebo]at hl;have hc:=(hl.at rfl k hkl).2;rw[(List.getElem?_eq_some_iff.1 hk).2]at hc;have hbi:=h.blocks bk (List.mem_of_getElem? hk);obtain⟨iq,ic,eiv,-,-⟩:=hbi.lies.form;have hc':=bc4 hc;rw[eiv]at hc';have hin:=hbi.lies;rw[eiv]at hin;exact⟨ro,_,rc,bo,_,bc,gb,goff,iq,_,ic,⟨er,eb,ebo,hgb,hkl,eiv,rfl,hc',hin⟩⟩
theorem GB.below {w w':World} {B:Nat} {g:Gr} {k:Nat} {bk:Bk} {ro:Option Addr} {NR rc:Nat} {bo:Option Addr} {NB bc gb goff:Nat} {iq:Option Addr} {il ic:Nat} (h:GB w B g k bk ro NR rc bo NB bc gb goff iq il ic) (hb:Below B w w'):GB w' B g k bk ro NR rc bo NB bc gb goff iq il ic:=by
 obtain⟨c0,c1,c2,c3,c4⟩:=h.cells;exact⟨h.er,h.eb,h.hb,h.lt,h.kb,h.iv,h.len,⟨(hb.cell (p:=⟨gb,_,none⟩) h.lt).trans c0,(hb.cell (p:=⟨gb,_,none⟩) h.lt).trans c1,(hb.cell (p:=⟨gb,_,none⟩) h.lt).trans c2,(hb.cell (p:=⟨gb,_,none⟩) h.lt).trans c3,(hb.cell (p:=⟨gb,_,none⟩) h.lt).trans c4⟩,h.ins.below hb⟩
theorem Vt {ow:Nat→Nat} {w:World} {B:Nat} {g:Gr} {tb o j:Nat} {T:RT} {rs ws os:Value} {bk:Bk} (h2:QT ow w tb o j T rs ws os) (hI:GIn w B g) (hBw:B≤w.heap.size) (hbk:g.blocks[T.bi]? = some bk) (hii:T.ii≤bk.ins.length) :
 Calls Tryz.prog 121 #[.pointer (some ⟨tb,o,none⟩),.agg #[g.rv,.int .i64 g.sites,g.bv]] w fun e w'=>e = .returned (.bool (vK g T))∧Below w.heap.size w w':=by
 obtain⟨ro,NR,rc,bo,NB,bc,gb,goff,iq,il,ic,hG⟩:=uD hI hbk;rw[hG.er,hG.eb];obtain⟨sites,hsi⟩:∃ s,s=g.sites:=⟨_,rfl⟩
 rw[←hsi];have ebo:=hG.hb;subst ebo;obtain⟨U,hU⟩:∃ U,U=w.alloc (.cells #[.slice ro NR rc,.int .i64 sites,.slice (some ⟨gb,goff,none⟩) NB bc] 75):=⟨_,rfl⟩
 have hBU:Below w.heap.size w U:=by rw[hU];exact ze w _
 have hO:U.heap[w.heap.size]? = some (.cells #[.slice ro NR rc,.int .i64 sites,.slice (some ⟨gb,goff,none⟩) NB bc] 75 (0,0)):=by rw[hU];exact (MapKept.heap_alloc _ _).1
 have hGU:=hG.below (hBU.mono hBw);have h2U:=h2.keeps (But.of (ls:=[]) hBU) (.refl _ _) (by simp) (by simp) (by simp) (by simp);obtain⟨htb,d0,d1,-,-,-,-⟩:=h2U.cells;obtain⟨c0,c1,c2,c3,c4⟩:=hGU.cells;obtain⟨g0,g1,g2⟩:=yl hO;have hkb:=hG.kb;have hlen:=hG.len;have hgb:gb<U.heap.size:=by have:=hG.lt;have:=hBU.size;omega
 have hlw:=z8 hO;have HL:=hid (fun (V:World) (hv:Below U.heap.size U V)=>(hGU.below (hv.mono (Nat.le_trans hBw hBU.size))).ins);have HGL:=hid hG.lt;obtain⟨bi,hbi⟩:∃ x,x=T.bi:=⟨_,rfl⟩
 obtain⟨ii,hi2⟩:∃ x,x=T.ii:=⟨_,rfl⟩
 rw[←hbi]at d0 c0 c1 c2 c3 c4 hkb;rw[←hi2]at d1;obtain⟨bl_last,hl1⟩:∃ x,x=bk.last:=⟨_,rfl⟩
 obtain⟨bl_reg,hl2⟩:∃ x,x=bk.reg:=⟨_,rfl⟩
 obtain⟨bl_yes,hl3⟩:∃ x,x=bk.yes:=⟨_,rfl⟩
 obtain⟨bl_no,hl4⟩:∃ x,x=bk.no:=⟨_,rfl⟩
 rw[←hl1]at c1;rw[←hl2]at c2;rw[←hl3]at c3;rw[←hl4]at c4;have HI:=hid (And.intro hbk (And.intro hi2 (And.intro hlen hii)));have HD1:=hid d1;have HTB:=hid htb;have HB:=hid hBU;have HU:=hid hU;have HLW:=hid hBw;clear hI hG hGU h2U h2 hO hU hBU hsi hbi hi2 hl1 hl2 hl3 hl4 hbk hlen hii;go_enter Tryz.func121,Tryz.ntmps121;go_wp2_with fail;rw[←HU.out];refine wp_region_held_drew (S:=zk (U.heap.size) U) (by kernel_rfl) (zk.drew _ _) (fun hSw=>?_);refine tH 0 (.pointer (some ⟨w.heap.size,0+2,none⟩)) hSw ?_;(try simp only[nS]);refine tG 1 (.slice (some ⟨gb,goff,none⟩) NB bc) hSw (fun W hW=>?_) ?_
 · have g2:=hW.cell (by dsimp only;omega) g2
   first|(go_simp;done)|rfl
 (try simp only[nS]);refine tH 2 (.pointer (some ⟨tb,o,none⟩)) hSw ?_;(try simp only[nS]);refine tH 3 (.pointer (some ⟨tb,o,none⟩)) hSw ?_;(try simp only[nS]);refine tH 4 (.pointer (some ⟨tb,o,none⟩)) hSw ?_;(try simp only[nS]);refine tG 5 (.int .i64 (bi:Int)) hSw (fun W hW=>?_) ?_
 · have d0:=hW.cell (by dsimp only;omega) d0
   first|(go_simp;done)|rfl
 (try simp only[nS]);refine tH 6 (.pointer (some ⟨gb,goff+bi*5,none⟩)) hSw ?_;(try simp only[nS]);refine tG 7 (.agg #[.slice iq il ic,.int .u8 bl_last,.int .i64 bl_reg,.int .i64 bl_yes,.int .i64 bl_no]) hSw (fun W hW=>?_) ?_
 · have c0:=hW.cell (by dsimp only;omega) c0
   have c1:=hW.cell (by dsimp only;omega) c1;have c2:=hW.cell (by dsimp only;omega) c2;have c3:=hW.cell (by dsimp only;omega) c3;have c4:=hW.cell (by dsimp only;omega) c4
   first|(go_simp;done)|rfl
 (try simp only[nS]);refine tR 8 (fun K hK=>?_);clear hSw;go_simp;refine hK.out _ _ (fun k hk=>(Below.heap_alloc _ _ _ (by show k<U.heap.size;omega))) (fun hSw=>?_);clear hK K;(try simp only[nS]);refine tR 9 (fun K hK=>?_);clear hSw;go_simp;refine hK.out _ _ (fun k hk=>(Below.heap_alloc _ _ _ (by show k<U.heap.size;omega))) (fun hSw=>?_);clear hK K;(try simp only[nS]);refine wpAnyH_done (by kernel_rfl) ?_ _;go_wp2_with fail;obtain⟨V,hV⟩:∃ V,V=(U.alloc (.cells #[.slice iq il ic,.int .u8 bl_last,.int .i64 bl_reg,.int .i64 bl_yes,.int .i64 bl_no] 118)).drew:=⟨_,rfl⟩
 have hBV:Below U.heap.size U V:=by rw[hV];exact below_drewN (ze U _) 1
 have hX:V.heap[U.heap.size]? = some (.cells #[.slice iq il ic,.int .u8 bl_last,.int .i64 bl_reg,.int .i64 bl_yes,.int .i64 bl_no] 118 (0,0)):=by rw[hV];exact (MapKept.heap_alloc U _).1
 have hlX:=z8 hX;obtain⟨x0,x1,x2,x3,x4⟩:=zx hX;have d1:=(hBV.cell (p:=⟨tb,o+1,none⟩) HTB.out).trans HD1.out;have htb:tb<V.heap.size:=Nat.lt_of_lt_of_le HTB.out hBV.size;have HBV:=hid (HB.out.trans (hBV.mono HB.out.size));have HLV:=hid (HL.out V hBV);have hgw:U.heap.size≤V.heap.size:=hBV.size;rw[←hV];clear hV hBV hX c0 c1 c2 c3 c4 g0 g1 g2 d0
 by_cases hlt:ii<il
 · have hix:ii<bk.ins.length:=by rw[HI.out.2.2.1];exact hlt
   obtain⟨x,hx⟩:∃ x,bk.ins[ii]? = some x:=⟨_,List.getElem?_eq_getElem hix⟩
   obtain⟨gi,offi,rfl,hgi⟩:∃ gi offi,iq=some ⟨gi,offi,none⟩ ∧ gi<B:=by
    obtain⟨ao,cap,e,-,hh⟩:=HLV.out.form;obtain⟨gi,offi,e2,hgi⟩:=hh (by omega);injection e with e3
    exact⟨gi,offi,e3.trans e2,hgi⟩
   have hxc:=(HLV.out.at rfl ii hix).2 0 (.int .u8 x.k) (by rw[(List.getElem?_eq_some_iff.1 hx).2];rfl);rw[Nat.add_zero]at hxc;have hgiV:gi<V.heap.size:=by have:=HLW.out;have:=HB.out.size;omega
   have HBG:=hid (show vK g T=decide (x.k=13)from by unfold vK;rw[HI.out.1];simp only;rw[←HI.out.2.1,hx]);obtain⟨xk,hxk⟩:∃ y,y=x.k:=⟨_,rfl⟩
   rw[←hxk]at hxc HBG;clear hix hx hxk;have hl1:decide (ii<il)=true:=by simpa using hlt
   by_cases h13:xk=13
   · subst h13
     go_quiet (fail)
     go_wp2_with fail;go_ret;exact⟨by rw[HBG.out];rfl,below_drewN HBV.out _⟩
   · have e13:(xk==13)=false:=by simpa using h13
     have HD:=hid (show decide (xk=13)=false from by simpa using h13);clear h13
     go_quiet (fail)
     go_wp2_with fail;go_ret;exact⟨by rw[HBG.out,HD.out];rfl,below_drewN HBV.out _⟩
 · have HBG:=hid (show vK g T=false from by
    have hn:bk.ins[ii]? = none:=List.getElem?_eq_none (by rw[HI.out.2.2.1];omega);unfold vK;rw[HI.out.1];simp only;rw[←HI.out.2.1,hn])
   have hd:decide ((ii:Int)<(il:Int))=false:=by simp;omega
   have hd2:decide (ii<il)=false:=by simp;omega
   have hd3:¬ ii<il:=hlt;clear hlt
   go_quiet (fail)
   go_wp2_with fail;go_ret;exact⟨by rw[HBG.out];rfl,below_drewN HBV.out _⟩
def TbK (tb o:Nat) (w w':World):Prop:=∃ cur cur',w.heap[tb]? = some (.cells cur 101 (0,0))∧w'.heap[tb]? = some (.cells cur' 101 (0,0))∧cur'.size=cur.size∧∀ i,(i<o∨o+6≤i)→cur'[i]? = cur[i]?
theorem TbK.trans {tb o:Nat} {a b c:World} (h:TbK tb o a b) (k:TbK tb o b c):TbK tb o a c:=by
 obtain⟨c1,c2,h1,h2,h3,h4⟩:=h;obtain⟨c2',c3,k1,k2,k3,k4⟩:=k;rw[h2]at k1;cases k1;exact⟨c1,c3,h1,k2,k3.trans h3,fun i hi=>(k4 i hi).trans (h4 i hi)⟩
theorem TbK.of_but {ow:Nat→Nat} {ls:List Nat} {tb o:Nat} {w w':World} {cur:Array Value} (h:w.heap[tb]? = some (.cells cur 101 (0,0))) (hl:ow tb=3) (hb:But ow ls w w') (h3:3 ∉ ls):TbK tb o w w':=
 ⟨cur,cur,h,(hb.block tb (z8 h) (by rw[hl];exact h3)).trans h,rfl,fun _ _=>rfl⟩
theorem yu {cur:Array Value} {o i k:Nat} {u v:Value} (h:cur[o+k]? = some v):(cur.setIfInBounds (o+i) u)[o+k]? = some (if i=k then u else v):=by
 have hlt:=(Array.getElem?_eq_some_iff.1 h).1;rw[Array.getElem?_setIfInBounds]
 by_cases e:i=k
 · subst e;simp[hlt]
 · rw[if_neg (by omega),if_neg e];exact h
theorem QT.put {ow:Nat→Nat} {w:World} {tb o j:Nat} {T:RT} {rs ws os:Value} (h:QT ow w tb o j T rs ws os) (i:Nat) (hi:i<6) (u:Value):But ow [3] w (w.setCell ⟨tb,o+i,none⟩ u)∧TbK tb o w (w.setCell ⟨tb,o+i,none⟩ u):=by
 obtain⟨cur,hc,-⟩:=h.row;refine⟨(But.of (Below.refl _ _)).set (p:=⟨tb,o+i,none⟩) (by simp[h.lab]) _,cur,_,hc,heap_setCell_same w tb (o+i) _ _ _ hc,by simp,fun k hk=>?_⟩;rw[Array.getElem?_setIfInBounds,if_neg (by omega)]
theorem QT.setII {ow:Nat→Nat} {w:World} {tb o j:Nat} {T:RT} {rs ws os:Value} (h:QT ow w tb o j T rs ws os) (x:Nat):QT ow (w.setCell ⟨tb,o+1,none⟩ (.int .i64 (x:Int))) tb o j { T with ii:=x } rs ws os:=by
 have hb:=(h.put 1 (by omega) (.int .i64 (x:Int))).1;obtain⟨cur,hc,r0,r1,r2,r3,r4,r5⟩:=h.row;exact⟨⟨_,heap_setCell_same w tb (o+1) _ _ _ hc,yu (k:=0) r0,yu (k:=1) r1,yu (k:=2) r2,yu (k:=3) r3,yu (k:=4) r4,yu (k:=5) r5⟩,h.lab,vU h.regs hb (.refl _ _) (by simp;omega),h.wait.keeps hb (.refl _ _) (by simp;omega),h.out.keeps hb (.refl _ _) (by simp;omega)⟩
theorem QT.setBI {ow:Nat→Nat} {w:World} {tb o j:Nat} {T:RT} {rs ws os:Value} (h:QT ow w tb o j T rs ws os) (x:Nat):QT ow (w.setCell ⟨tb,o,none⟩ (.int .i64 (x:Int))) tb o j { T with bi:=x } rs ws os:=by
 have hb:=(h.put 0 (by omega) (.int .i64 (x:Int))).1;obtain⟨cur,hc,r0,r1,r2,r3,r4,r5⟩:=h.row;exact⟨⟨_,heap_setCell_same w tb (o+0) _ _ _ hc,yu (k:=0) r0,yu (k:=1) r1,yu (k:=2) r2,yu (k:=3) r3,yu (k:=4) r4,yu (k:=5) r5⟩,h.lab,vU h.regs hb (.refl _ _) (by simp;omega),h.wait.keeps hb (.refl _ _) (by simp;omega),h.out.keeps hb (.refl _ _) (by simp;omega)⟩
theorem QT.setFin {ow:Nat→Nat} {w:World} {tb o j:Nat} {T:RT} {rs ws os:Value} (h:QT ow w tb o j T rs ws os) (x:Int):QT ow (w.setCell ⟨tb,o+5,none⟩ (.int .u8 x)) tb o j { T with fin:=x } rs ws os:=by
 have hb:=(h.put 5 (by omega) (.int .u8 x)).1;obtain⟨cur,hc,r0,r1,r2,r3,r4,r5⟩:=h.row;exact⟨⟨_,heap_setCell_same w tb (o+5) _ _ _ hc,yu (k:=0) r0,yu (k:=1) r1,yu (k:=2) r2,yu (k:=3) r3,yu (k:=4) r4,yu (k:=5) r5⟩,h.lab,vU h.regs hb (.refl _ _) (by simp;omega),h.wait.keeps hb (.refl _ _) (by simp;omega),h.out.keeps hb (.refl _ _) (by simp;omega)⟩
def QLa (ow:Nat→Nat) (tb o j:Nat) (rs ws os:Value) (r:RT × Bool) (w:World) (e:Ending) (w':World):Prop:=
 e = .returned (.bool r.2)∧QT ow w' tb o j r.1 rs ws os∧But ow [3] w w'∧TbK tb o w w'
theorem Vo {ow:Nat→Nat} {w:World} {tb o j:Nat} {T:RT} {rs ws os:Value} (h2:QT ow w tb o j T rs ws os) (iq:Option Addr) (il ic:Nat) (iv:Value) (ins:List In) (rr:Int) (y:Nat) (nn:Int) :
 Calls Tryz.prog 196 #[.pointer (some ⟨tb,o,none⟩),.agg #[.slice iq il ic,.int .u8 1,.int .i64 rr,.int .i64 (y:Int),.int .i64 nn]] w (QLa ow tb o j rs ws os (yx T ⟨iv,ins,1,rr,(y:Int),nn⟩) w):=by
 obtain⟨U,hU⟩:∃ U,U=w.alloc (.cells #[.slice iq il ic,.int .u8 1,.int .i64 rr,.int .i64 (y:Int),.int .i64 nn] 118):=⟨_,rfl⟩
 have hBU:Below w.heap.size w U:=by rw[hU];exact ze w _
 have hO:U.heap[w.heap.size]? = some (.cells #[.slice iq il ic,.int .u8 1,.int .i64 rr,.int .i64 (y:Int),.int .i64 nn] 118 (0,0)):=by rw[hU];exact (MapKept.heap_alloc _ _).1
 obtain⟨htb,d0,d1,d2,d3,d4,d5⟩:=h2.cells;have f0:=h2.frozen o;have f1:=h2.frozen (o+1);have f5:=h2.frozen (o+5);have H2:=hid h2;have hlw:=z8 hO;have hne:tb≠w.heap.size:=by omega
 obtain⟨b0,b1,b2,b3,b4⟩:=zx hO;have HO:=hid hO;have HU:=hid hU;obtain⟨rg,er,hrg,hrl⟩:=h2.regs;have hrgl:=z8 hrg;rw[er]at d2;obtain⟨NR,hNR⟩:∃ N,N=T.regs.length:=⟨_,rfl⟩
 rw[←hNR]at d2;clear h2 hBU hO hU er hrg hrl;go_enter Tryz.func196,Tryz.ntmps196;go_wp2_with fail;have HY:=hid (show yx T ⟨iv,ins,1,rr,(y:Int),nn⟩ = ({ T with ii:=0,bi:=y },true)from by simp[yx]);go_ret;have hq:=(H2.out.setII 0).setBI y;have hp:=(⟨zw (H2.out.put 1 (by omega) (.int .i64 0)).1 (H2.out.setII 0 |>.put 0 (by omega) (.int .i64 (y:Int))).1,(H2.out.put 1 (by omega) (.int .i64 0)).2.trans (H2.out.setII 0 |>.put 0 (by omega) (.int .i64 (y:Int))).2⟩:_∧_)
 obtain⟨W1,hW1⟩:∃ W1,W1=(w.setCell ⟨tb,o+1,none⟩ (.int .i64 0)).setCell ⟨tb,o,none⟩ (.int .i64 (y:Int)):=⟨_,rfl⟩
 have hq1:QT ow W1 tb o j { T with ii:=0,bi:=y } rs ws os:=by rw[hW1];exact hq
 have hp1:But ow [3] w W1∧TbK tb o w W1:=by rw[hW1];exact hp
 have hbA:=ze W1 (.cells #[.slice iq il ic,.int .u8 1,.int .i64 rr,.int .i64 (y:Int),.int .i64 nn] 118);have hbB:But ow ([]:List Nat) W1 (W1.alloc (.cells #[.slice iq il ic,.int .u8 1,.int .i64 rr,.int .i64 (y:Int),.int .i64 nn] 118)):=But.of hbA;have hres:QT ow (W1.alloc (.cells #[.slice iq il ic,.int .u8 1,.int .i64 rr,.int .i64 (y:Int),.int .i64 nn] 118)) tb o j { T with ii:=0,bi:=y } rs ws os∧But ow [3] w (W1.alloc (.cells #[.slice iq il ic,.int .u8 1,.int .i64 rr,.int .i64 (y:Int),.int .i64 nn] 118))∧TbK tb o w (W1.alloc (.cells #[.slice iq il ic,.int .u8 1,.int .i64 rr,.int .i64 (y:Int),.int .i64 nn] 118)):=⟨hq1.keeps hbB (.refl _ _) (by simp) (by simp) (by simp) (by simp),zw hp1.1 (zi hbB (by simp)),hp1.2.trans (TbK.of_but hq1.row.choose_spec.1 hq1.lab hbB (by simp))⟩
 rw[hW1]at hres;rw[HY.out];exact⟨rfl,hres⟩
theorem Vm {ow:Nat→Nat} {w:World} {tb o j:Nat} {T:RT} {rs ws os:Value} (h2:QT ow w tb o j T rs ws os) (iq:Option Addr) (il ic:Nat) (iv:Value) (ins:List In) (rr yy nn:Int) :
 Calls Tryz.prog 196 #[.pointer (some ⟨tb,o,none⟩),.agg #[.slice iq il ic,.int .u8 3,.int .i64 rr,.int .i64 yy,.int .i64 nn]] w (QLa ow tb o j rs ws os (yx T ⟨iv,ins,3,rr,yy,nn⟩) w):=by
 obtain⟨U,hU⟩:∃ U,U=w.alloc (.cells #[.slice iq il ic,.int .u8 3,.int .i64 rr,.int .i64 yy,.int .i64 nn] 118):=⟨_,rfl⟩
 have hBU:Below w.heap.size w U:=by rw[hU];exact ze w _
 have hO:U.heap[w.heap.size]? = some (.cells #[.slice iq il ic,.int .u8 3,.int .i64 rr,.int .i64 yy,.int .i64 nn] 118 (0,0)):=by rw[hU];exact (MapKept.heap_alloc _ _).1
 obtain⟨htb,d0,d1,d2,d3,d4,d5⟩:=h2.cells;have f0:=h2.frozen o;have f1:=h2.frozen (o+1);have f5:=h2.frozen (o+5);have H2:=hid h2;have hlw:=z8 hO;have hne:tb≠w.heap.size:=by omega
 obtain⟨b0,b1,b2,b3,b4⟩:=zx hO;have HO:=hid hO;have HU:=hid hU;obtain⟨rg,er,hrg,hrl⟩:=h2.regs;have hrgl:=z8 hrg;rw[er]at d2;obtain⟨NR,hNR⟩:∃ N,N=T.regs.length:=⟨_,rfl⟩
 rw[←hNR]at d2;clear h2 hBU hO hU er hrg hrl;go_enter Tryz.func196,Tryz.ntmps196;go_wp2_with fail;have HY:=hid (show yx T ⟨iv,ins,3,rr,yy,nn⟩ = ({ T with ii:=0,fin:=1 },false)from by simp[yx]);go_ret;have hq:=(H2.out.setII 0).setFin 1;have hp:=(⟨zw (H2.out.put 1 (by omega) (.int .i64 0)).1 (H2.out.setII 0 |>.put 5 (by omega) (.int .u8 1)).1,(H2.out.put 1 (by omega) (.int .i64 0)).2.trans (H2.out.setII 0 |>.put 5 (by omega) (.int .u8 1)).2⟩:_∧_)
 obtain⟨W1,hW1⟩:∃ W1,W1=(w.setCell ⟨tb,o+1,none⟩ (.int .i64 0)).setCell ⟨tb,o+5,none⟩ (.int .u8 1):=⟨_,rfl⟩
 have hq1:QT ow W1 tb o j { T with ii:=0,fin:=1 } rs ws os:=by rw[hW1];exact hq
 have hp1:But ow [3] w W1∧TbK tb o w W1:=by rw[hW1];exact hp
 have hbA:=ze W1 (.cells #[.slice iq il ic,.int .u8 3,.int .i64 rr,.int .i64 yy,.int .i64 nn] 118);have hbB:But ow ([]:List Nat) W1 (W1.alloc (.cells #[.slice iq il ic,.int .u8 3,.int .i64 rr,.int .i64 yy,.int .i64 nn] 118)):=But.of hbA;have hres:QT ow (W1.alloc (.cells #[.slice iq il ic,.int .u8 3,.int .i64 rr,.int .i64 yy,.int .i64 nn] 118)) tb o j { T with ii:=0,fin:=1 } rs ws os∧But ow [3] w (W1.alloc (.cells #[.slice iq il ic,.int .u8 3,.int .i64 rr,.int .i64 yy,.int .i64 nn] 118))∧TbK tb o w (W1.alloc (.cells #[.slice iq il ic,.int .u8 3,.int .i64 rr,.int .i64 yy,.int .i64 nn] 118)):=⟨hq1.keeps hbB (.refl _ _) (by simp) (by simp) (by simp) (by simp),zw hp1.1 (zi hbB (by simp)),hp1.2.trans (TbK.of_but hq1.row.choose_spec.1 hq1.lab hbB (by simp))⟩
 rw[hW1]at hres;rw[HY.out];exact⟨rfl,hres⟩
theorem Vn {ow:Nat→Nat} {w:World} {tb o j:Nat} {T:RT} {rs ws os:Value} (h2:QT ow w tb o j T rs ws os) (iq:Option Addr) (il ic:Nat) (iv:Value) (ins:List In) (ra y z:Nat) (hr:ra<T.regs.length) :
 Calls Tryz.prog 196 #[.pointer (some ⟨tb,o,none⟩),.agg #[.slice iq il ic,.int .u8 2,.int .i64 (ra:Int),.int .i64 (y:Int),.int .i64 (z:Int)]] w (QLa ow tb o j rs ws os (yx T ⟨iv,ins,2,(ra:Int),(y:Int),(z:Int)⟩) w):=by
 obtain⟨U,hU⟩:∃ U,U=w.alloc (.cells #[.slice iq il ic,.int .u8 2,.int .i64 (ra:Int),.int .i64 (y:Int),.int .i64 (z:Int)] 118):=⟨_,rfl⟩
 have hBU:Below w.heap.size w U:=by rw[hU];exact ze w _
 have hO:U.heap[w.heap.size]? = some (.cells #[.slice iq il ic,.int .u8 2,.int .i64 (ra:Int),.int .i64 (y:Int),.int .i64 (z:Int)] 118 (0,0)):=by rw[hU];exact (MapKept.heap_alloc _ _).1
 obtain⟨htb,d0,d1,d2,d3,d4,d5⟩:=h2.cells;have f0:=h2.frozen o;have f1:=h2.frozen (o+1);have f5:=h2.frozen (o+5);have H2:=hid h2;have hlw:=z8 hO;have hne:tb≠w.heap.size:=by omega
 obtain⟨b0,b1,b2,b3,b4⟩:=zx hO;have HO:=hid hO;have HU:=hid hU;obtain⟨rg,er,hrg,hrl⟩:=h2.regs;have hrgl:=z8 hrg;rw[er]at d2;obtain⟨NR,hNR⟩:∃ N,N=T.regs.length:=⟨_,rfl⟩
 rw[←hNR]at d2;obtain⟨zr,hzr⟩:∃ z,T.regs[ra]? = some z:=⟨_,List.getElem?_eq_getElem hr⟩
 have s1:=zT hrg ra zr hzr;have hr1:ra<NR:=by rw[hNR];exact hr
 have HZR:=hid (wD hzr);have hrt:rg≠tb:=fun q=>by rw[q,h2.lab]at hrl;omega
 clear hzr hr;clear h2 hBU hO hU er hrg hrl;go_enter Tryz.func196,Tryz.ntmps196;go_wp2_with fail
 go_quiet (fail)
 by_cases hz:zr=0
 · have HY:=hid (show yx T ⟨iv,ins,2,(ra:Int),(y:Int),(z:Int)⟩ = ({ T with ii:=0,bi:=z },true)from by simp[yx,HZR.out,hz])
   have hd:(zr != 0)=false:=by simpa using hz
   replace hz:=hid hz
   go_wp2_with fail;go_ret;have hA:But ow ([]:List Nat) (w.setCell ⟨tb,o+1,none⟩ (.int .i64 0)) (((w.setCell ⟨tb,o+1,none⟩ (.int .i64 0)).alloc (.cells #[.slice iq il ic,.int .u8 2,.int .i64 (ra:Int),.int .i64 (y:Int),.int .i64 (z:Int)] 118)).drewN nq):=But.of (below_drewN (ze _ _) nq);have hq0:QT ow (w.setCell ⟨tb,o+1,none⟩ (.int .i64 0)) tb o j { T with ii:=0 } rs ws os:=H2.out.setII 0;have hqA:=hq0.keeps hA (.refl _ _) (by simp) (by simp) (by simp) (by simp);have hp0:But ow [3] w (w.setCell ⟨tb,o+1,none⟩ (.int .i64 0))∧TbK tb o w (w.setCell ⟨tb,o+1,none⟩ (.int .i64 0)):=H2.out.put 1 (by omega) (.int .i64 0);have hpA:=hqA.put 0 (by omega) (.int .i64 (z:Int));have hkA:=TbK.of_but (o:=o) hq0.row.choose_spec.1 hq0.lab hA (by simp);rw[HY.out];exact⟨rfl,hqA.setBI z,zw hp0.1 (zw (zi hA (by simp)) hpA.1),hp0.2.trans (hkA.trans hpA.2)⟩
 · have HY:=hid (show yx T ⟨iv,ins,2,(ra:Int),(y:Int),(z:Int)⟩ = ({ T with ii:=0,bi:=y },true)from by simp[yx,HZR.out,hz])
   have hd:(zr != 0)=true:=by simpa using hz
   replace hz:=hid hz
   go_wp2_with fail;go_ret;have hA:But ow ([]:List Nat) (w.setCell ⟨tb,o+1,none⟩ (.int .i64 0)) (((w.setCell ⟨tb,o+1,none⟩ (.int .i64 0)).alloc (.cells #[.slice iq il ic,.int .u8 2,.int .i64 (ra:Int),.int .i64 (y:Int),.int .i64 (z:Int)] 118)).drewN nq):=But.of (below_drewN (ze _ _) nq);have hq0:QT ow (w.setCell ⟨tb,o+1,none⟩ (.int .i64 0)) tb o j { T with ii:=0 } rs ws os:=H2.out.setII 0;have hqA:=hq0.keeps hA (.refl _ _) (by simp) (by simp) (by simp) (by simp);have hp0:But ow [3] w (w.setCell ⟨tb,o+1,none⟩ (.int .i64 0))∧TbK tb o w (w.setCell ⟨tb,o+1,none⟩ (.int .i64 0)):=H2.out.put 1 (by omega) (.int .i64 0);have hpA:=hqA.put 0 (by omega) (.int .i64 (y:Int));have hkA:=TbK.of_but (o:=o) hq0.row.choose_spec.1 hq0.lab hA (by simp);rw[HY.out];exact⟨rfl,hqA.setBI y,zw hp0.1 (zw (zi hA (by simp)) hpA.1),hp0.2.trans (hkA.trans hpA.2)⟩
