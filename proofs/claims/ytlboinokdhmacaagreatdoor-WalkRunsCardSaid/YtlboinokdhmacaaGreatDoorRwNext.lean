import Derived.Test.YtlboinokdhmacaaGreatDoorWkRunAt
import Derived.Test.YtlboinokdhmacaaGreatDoorRwLast
import Derived.Test.YtlboinokdhmacaaGreatDoorRlLast
namespace Go.Proofs.YtlboinokdhmacaaGreatDoor
set_option maxHeartbeats 64000000
set_option maxRecDepth 1000000
open Lib(hid)
open Go.RowKit
attribute [local go_sem ↓] zL zJ
structure LAt (ow:Nat→Nat) (w:World) (cl:Nat) (lv:Value) (l:List Int):Prop where
 box:w.heap[cl]? = some (.cells #[lv] 85 (0,0))
 lab:ow cl=4
 row:zI ow w 5 lv l
theorem LAt.keeps {ow ow':Nat→Nat} {ls:List Nat} {w w':World} {cl:Nat} {lv:Value} {l:List Int} (h:LAt ow w cl lv l) (hb:But ow ls w w') (he:Ext ow ow' w) (h4:4 ∉ ls) (h5:5 ∉ ls):LAt ow' w' cl lv l:=
 ⟨(hb.block cl (z8 h.box) (by rw[h.lab];exact h4)).trans h.box,by rw[he cl (z8 h.box)];exact h.lab,h.row.keeps hb he h5⟩
def QSt (ow:Nat→Nat) (b:Nat) (wd:Int) (tv tw:Value) (tb o j cl:Nat) (rs ws os:Value) (n:Int) (W:WS) (T:RT) (l:List Int) (w w':World):Prop:=
 ∃ ow' v lv,Ext ow ow' w∧QW ow' w' b wd tv tw W n v∧QT ow' w' tb o j T rs ws os∧LAt ow' w' cl lv l∧But ow [1,2,3,4,5,10+8*j] w w'∧TbK tb o w w'
theorem QW.fuel {ow:Nat→Nat} {w:World} {b:Nat} {wd:Int} {tv tw:Value} {W:WS} {n:Int} {v:Value} (h:QW ow w b wd tv tw W n v) (m:Int):QW ow (w.setCell ⟨b,4,none⟩ (.int .i64 m)) b wd tv tw W m v∧But ow [1] w (w.setCell ⟨b,4,none⟩ (.int .i64 m)):=by
 have hb:But ow [1] w (w.setCell ⟨b,4,none⟩ (.int .i64 m)):=(But.of (Below.refl _ _)).set (p:=⟨b,4,none⟩) (by simp[h.lab]) _;refine⟨⟨?_,zM h.row hb h.labr (by simp),h.lab,h.labr,h.many⟩,hb⟩;rw[heap_setCell_same w b 4 _ _ _ h.box]
 rfl
structure uR (ow:Nat→Nat) (w:World) (B b:Nat) (wd:Int) (tv tw:Value) (tb o j cl:Nat) (rs ws os:Value) (n:Int) (W:WS) (T:RT) (l:List Int) (v lv:Value) (g:Gr) (bk:Bk):Prop where
 qw:QW ow w b wd tv tw W n v
 qt:QT ow w tb o j T rs ws os
 la:LAt ow w cl lv l
 gi:GIn w B g
 base:B≤w.heap.size
 low:∀ k,k<B→ow k=0
 new:∀ k,w.heap.size≤k→ow k=0
 hbk:g.blocks[T.bi]? = some bk
 ii:T.ii≤bk.ins.length
 fit:∀ i ∈ bk.ins,Fits T.regs.length i
 last:qL T.regs.length g.blocks.length bk
 long:l.length≤1048576
 kind:1≤bk.last∧bk.last≤3
theorem Zw {ow:Nat→Nat} {w:World} {B b:Nat} {wd:Int} {tv tw:Value} {tb o j cl:Nat} {rs ws os:Value} {W:WS} {T:RT} {l:List Int} {v lv:Value} {g:Gr} {bk:Bk} (h:uR ow w B b wd tv tw tb o j cl rs ws os 0 W T l v lv g bk) (inside:Bool) (mark:Nat) :
 Calls Tryz.prog 122 #[.pointer (some ⟨b,0,none⟩),.pointer (some ⟨tb,o,none⟩),.agg #[g.rv,.int .i64 g.sites,g.bv],.bool inside,.int .i64 (mark:Int),.pointer (some ⟨cl,0,none⟩)] w
  fun e w'=>e = .returned (.int .i64 4)∧QSt ow b wd tv tw tb o j cl rs ws os (-1) W T l w w':=by
 obtain⟨ro,NR,rc,bo,NB,bc,gb,goff,iq,il,ic,hG⟩:=uD h.gi h.hbk;rw[hG.er,hG.eb];obtain⟨sites,hsi⟩:∃ s,s=g.sites:=⟨_,rfl⟩
 rw[←hsi];have e4:=zh h.qw.box 4 _ rfl;have ef:=Lib.frozen_of_heap h.qw.box 4;have hlb:=z8 h.qw.box;have hw1:IntKind.i64.wrap ((0:Int) - 1) = -1:=by decide
 obtain⟨W1,hW1⟩:∃ W1,W1=w.setCell ⟨b,4,none⟩ (.int .i64 (-1)):=⟨_,rfl⟩
 have hf:=h.qw.fuel (-1);rw[←hW1]at hf;have HF:=hid hf;have HH:=hid h;have HW1:=hid hW1;clear h hG hsi hf hW1;go_enter Tryz.func122,Tryz.ntmps122;go_wp2_with fail;go_ret;have hbA:=ze W1 (.cells #[.slice ro NR rc,.int .i64 sites,.slice bo NB bc] 75);rw[HW1.out]at hbA;have hB2:But ow ([]:List Nat) (w.setCell ⟨b,4,none⟩ (.int .i64 (-1))) _:=But.of hbA;have hF:=HF.out;rw[HW1.out]at hF;have ht:=HH.out.qt.keeps hF.2 (.refl _ _) (by simp) (by simp;omega) (by simp;omega) (by simp;omega)
 exact⟨rfl,ow,v,lv,.refl _ _,hF.1.keeps hB2 (.refl _ _) (by simp) (by simp),ht.keeps hB2 (.refl _ _) (by simp) (by simp) (by simp) (by simp),(HH.out.la.keeps hF.2 (.refl _ _) (by simp) (by simp)).keeps hB2 (.refl _ _) (by simp) (by simp),zw (zi hF.2 (by simp)) (zi hB2 (by simp)),
  (TbK.of_but HH.out.qt.row.choose_spec.1 HH.out.qt.lab hF.2 (by simp)).trans (TbK.of_but ht.row.choose_spec.1 ht.lab hB2 (by simp))⟩
theorem yX {R:Nat} {x:Int} (h:yj R x):∃ n:Nat,x=(n:Int)∧n<R:=by unfold yj at h;exact⟨x.toNat,by omega,by omega⟩
theorem Vl {ow:Nat→Nat} {w:World} {tb o j NB:Nat} {T:RT} {rs ws os:Value} {bk:Bk} (h2:QT ow w tb o j T rs ws os) (iq:Option Addr) (il ic:Nat) (hl:qL T.regs.length NB bk) (hk:1≤bk.last∧bk.last≤3) :
 Calls Tryz.prog 196 #[.pointer (some ⟨tb,o,none⟩),.agg #[.slice iq il ic,.int .u8 bk.last,.int .i64 bk.reg,.int .i64 bk.yes,.int .i64 bk.no]] w (QLa ow tb o j rs ws os (yx T bk) w):=by
 obtain⟨iv,ins,k,r,y,z⟩:=bk;have h3:k=1∨k=2∨k=3:=by simp only at hk;omega
 rcases h3 with rfl|rfl|rfl
 · obtain⟨y',rfl,-⟩:=yX (hl.yes (by simp))
   exact Vo h2 iq il ic iv ins r y' z
 · obtain⟨y',rfl,-⟩:=yX (hl.yes (by simp))
   obtain⟨z',rfl,-⟩:=yX (hl.no rfl);obtain⟨r',rfl,hr⟩:=yX (hl.reg rfl);exact Vn h2 iq il ic iv ins r' y' z' hr
 · exact Vm h2 iq il ic iv ins r y z
theorem Vp {ow:Nat→Nat} {w:World} {b:Nat} {wd:Int} {tv tw:Value} {W:WS} {n:Int} {v:Value} {tb o j:Nat} {T:RT} {rs ws os:Value} (h1:QW ow w b wd tv tw W n v) (h2:QT ow w tb o j T rs ws os) (hnew:∀ k,w.heap.size≤k→ow k=0) (x:In) (hf:Fits T.regs.length x) (h12:x.k≠12) (h14:x.k≠14) (mark:Nat) :
 Calls Tryz.prog 197 #[.pointer (some ⟨b,0,none⟩),.pointer (some ⟨tb,o,none⟩),.agg #[.int .u8 x.k,.int .u8 x.o,.int .i64 x.a,.int .i64 x.b,.int .i64 x.c,.int .i64 x.n],.int .i64 (mark:Int)] w (QDo ow b wd tv tw n tb o j rs ws os (doR W T x mark) w):=by
 obtain⟨k,op,a,bb,c,nn⟩:=x;have hk:=hf.k;simp only at hk h12 h14;have h:=hf;have hks:k=1∨k=2∨k=3∨k=4∨k=5∨k=6∨k=7∨k=8∨k=9∨k=10∨k=11∨k=13:=by omega
 rcases hks with rfl|rfl|rfl|rfl|rfl|rfl|rfl|rfl|rfl|rfl|rfl|rfl
 · obtain⟨a',rfl,ha⟩:=yX (h.a (by simp));exact qdo_1 h1 h2 hnew op a' ha bb c nn mark
 · obtain⟨a',rfl,ha⟩:=yX (h.a (by simp));obtain⟨b',rfl,hb⟩:=yX (h.b (by simp));exact qdo_2 h1 h2 hnew op a' ha b' hb c nn mark
 · obtain⟨a',rfl,ha⟩:=yX (h.a (by simp));obtain⟨b',rfl,hb⟩:=yX (h.b (by simp));obtain⟨c',rfl,hc⟩:=yX (h.c rfl);exact qdo_3 h1 h2 hnew op a' ha b' hb c' hc nn mark
 · obtain⟨b',rfl,hb⟩:=yX (h.b (by simp));exact qdo_4 h1 h2 hnew op a b' hb c nn mark
 · obtain⟨b',rfl,hb⟩:=yX (h.b (by simp));exact qdo_5 h1 h2 hnew op a b' hb c nn mark
 · obtain⟨a',rfl,ha⟩:=yX (h.a (by simp));exact qdo_6 h1 h2 hnew op a' ha bb c nn mark
 · obtain⟨a',rfl,ha⟩:=yX (h.a (by simp));exact qdo_7 h1 h2 hnew op a' ha bb c nn (h.n rfl) mark
 · obtain⟨a',rfl,ha⟩:=yX (h.a (by simp));obtain⟨b',rfl,hb⟩:=yX (h.b (by simp));exact qdo_8 h1 h2 hnew op a' ha b' hb c nn (h.m (by simp)) mark
 · obtain⟨a',rfl,ha⟩:=yX (h.a (by simp));obtain⟨b',rfl,hb⟩:=yX (h.b (by simp));exact qdo_9 h1 h2 hnew op a' ha b' hb c nn (h.m (by simp)) mark
 · obtain⟨a',rfl,ha⟩:=yX (h.a (by simp));obtain⟨b',rfl,hb⟩:=yX (h.b (by simp));exact Vs h1 h2 hnew op a' ha b' hb c nn (h.m (by simp)) mark
 · obtain⟨a',rfl,ha⟩:=yX (h.a (by simp));obtain⟨b',rfl,hb⟩:=yX (h.b (by simp));exact Vr h1 h2 hnew op a' ha b' hb c nn (h.m (by simp)) mark
 · exact Vq h1 h2 hnew op a bb c nn mark
structure StN (ow:Nat→Nat) (b:Nat) (wd:Int) (tv tw:Value) (tb o j cl:Nat) (rs ws os v lv:Value) (m:Int) (W:WS) (T:RT) (l:List Int) (w V:World):Prop where
 qw:QW ow V b wd tv tw W m v
 qt:QT ow V tb o j T rs ws os
 la:LAt ow V cl lv l
 but:But ow [1,2,3,4,5,10+8*j] w V
 tk:TbK tb o w V
theorem StN.below {ow:Nat→Nat} {b:Nat} {wd:Int} {tv tw:Value} {tb o j cl:Nat} {rs ws os v lv:Value} {m:Int} {W:WS} {T:RT} {l:List Int} {w V V':World} (h:StN ow b wd tv tw tb o j cl rs ws os v lv m W T l w V) (hb:Below V.heap.size V V'):StN ow b wd tv tw tb o j cl rs ws os v lv m W T l w V':=
 ⟨h.qw.keeps (But.of (ls:=[]) hb) (.refl _ _) (by simp) (by simp),h.qt.keeps (But.of (ls:=[]) hb) (.refl _ _) (by simp) (by simp) (by simp) (by simp),h.la.keeps (But.of (ls:=[]) hb) (.refl _ _) (by simp) (by simp),zw h.but (zi (l:=[]) (But.of hb) (by simp)),
  h.tk.trans (TbK.of_but h.qt.row.choose_spec.1 h.qt.lab (But.of (ow:=ow) (ls:=[]) hb) (by simp))⟩
theorem StN.step {ow:Nat→Nat} {b:Nat} {wd:Int} {tv tw:Value} {tb o j cl:Nat} {rs ws os v lv:Value} {m:Int} {W:WS} {T:RT} {l:List Int} {w V:World} (h:StN ow b wd tv tw tb o j cl rs ws os v lv m W T l w V):QSt ow b wd tv tw tb o j cl rs ws os m W T l w V:=⟨ow,v,lv,.refl _ _,h.qw,h.qt,h.la,h.but,h.tk⟩
theorem StN.cell {ow:Nat→Nat} {b:Nat} {wd:Int} {tv tw:Value} {tb o j cl:Nat} {rs ws os v lv:Value} {m:Int} {W:WS} {T T':RT} {l:List Int} {w V:World} (h:StN ow b wd tv tw tb o j cl rs ws os v lv m W T l w V) {i:Nat} (hi:i<6) {u:Value} (hq:QT ow (V.setCell ⟨tb,o+i,none⟩ u) tb o j T' rs ws os):StN ow b wd tv tw tb o j cl rs ws os v lv m W T' l w (V.setCell ⟨tb,o+i,none⟩ u):=by
 obtain⟨p1,p2⟩:=h.qt.put i hi u;exact⟨h.qw.keeps p1 (.refl _ _) (by simp) (by simp),hq,h.la.keeps p1 (.refl _ _) (by simp) (by simp),zw h.but (zi p1 (by simp)),h.tk.trans p2⟩
theorem Zx {ow:Nat→Nat} {w:World} {B b:Nat} {wd:Int} {tv tw:Value} {tb o j cl m:Nat} {rs ws os:Value} {W:WS} {T:RT} {l:List Int} {v lv:Value} {g:Gr} {bk:Bk} (h:uR ow w B b wd tv tw tb o j cl rs ws os ((m+1:Nat):Int) W T l v lv g bk) (hm:m≤1048576) (inside:Bool) (mark:Nat) :
 Calls Tryz.prog 122 #[.pointer (some ⟨b,0,none⟩),.pointer (some ⟨tb,o,none⟩),.agg #[g.rv,.int .i64 g.sites,g.bv],.bool inside,.int .i64 (mark:Int),.pointer (some ⟨cl,0,none⟩)] w
  fun e w'=>e = .returned (.int .i64 ((zy g W T inside mark l).2.2.2:Int))∧QSt ow b wd tv tw tb o j cl rs ws os (m:Int) (zy g W T inside mark l).1 (zy g W T inside mark l).2.1 (zy g W T inside mark l).2.2.1 w w':=by
 obtain⟨ro,NR,rc,bo,NB,bc,gb,goff,iq,il,ic,hG⟩:=uD h.gi h.hbk;rw[hG.er,hG.eb];have ebo:=hG.hb;subst ebo;obtain⟨sites,hsi⟩:∃ s,s=g.sites:=⟨_,rfl⟩
 rw[←hsi];obtain⟨RES,hRES⟩:∃ r,r=zy g W T inside mark l:=⟨_,rfl⟩
 rw[←hRES];unfold zy at hRES;rw[h.hbk]at hRES;simp only at hRES;have HRES:=hid hRES;have e4:=zh h.qw.box 4 _ rfl;have ef:=Lib.frozen_of_heap h.qw.box 4;have hlb:=z8 h.qw.box;have hw1:IntKind.i64.wrap (((m+1:Nat):Int) - 1)=(m:Int):=by rw[show ((m+1:Nat):Int) - 1=(m:Int)by omega];exact IntWalk.i64_in _ (by omega)
 obtain⟨W1,hW1⟩:∃ W1,W1=w.setCell ⟨b,4,none⟩ (.int .i64 (m:Int)):=⟨_,rfl⟩
 have hf:=h.qw.fuel (m:Int);rw[←hW1]at hf;obtain⟨V1,hV1⟩:∃ V1,V1=W1.alloc (.cells #[.slice ro NR rc,.int .i64 sites,.slice (some ⟨gb,goff,none⟩) NB bc] 75):=⟨_,rfl⟩
 have hb1:Below W1.heap.size W1 V1:=by rw[hV1];exact ze W1 _
 have ht1:=h.qt.keeps hf.2 (.refl _ _) (by simp) (by simp <;> omega) (by simp <;> omega) (by simp <;> omega);have hst0:StN ow b wd tv tw tb o j cl rs ws os v lv (m:Int) W T l w W1:=⟨hf.1,ht1,h.la.keeps hf.2 (.refl _ _) (by simp) (by simp),zi hf.2 (by simp),TbK.of_but h.qt.row.choose_spec.1 h.qt.lab hf.2 (by simp)⟩
 have hst1:=hst0.below hb1;have hz1:W1.heap.size=w.heap.size:=by rw[hW1];simp[World.setCell]
 have hx1:V1.heap[w.heap.size]? = some (.cells #[.slice ro NR rc,.int .i64 sites,.slice (some ⟨gb,goff,none⟩) NB bc] 75 (0,0)):=by rw[hV1,←hz1];exact (MapKept.heap_alloc W1 _).1
 have HLB:=hid (show ∀ V,But ow [1,2,3,4,5,10+8*j] w V→Below B w V from fun V hV=>⟨hV.os,hV.tape,hV.output,hV.size,fun k hk=>hV.block k (Nat.lt_of_lt_of_le hk h.base) (by rw[h.low k hk];simp;omega)⟩);have HGB:=hid (fun (V:World) (hV:But ow [1,2,3,4,5,10+8*j] w V)=>hG.below (HLB.out V hV));have HST1:=hid hst1;have HH:=hid h;have hkb:=hG.kb;have hgbB:=hG.lt;have hbase:=h.base;have HLEN:=hid hG.len;have hx1H:=hid hx1;obtain⟨c0,c1,c2,c3,c4⟩:=(HGB.out V1 hst1.but).cells;obtain⟨g0,g1,g2⟩:=yl hx1;obtain⟨htb,d0,d1,d2,d3,d4,d5⟩:=hst1.qt.cells;have hlw1:=z8 hx1;have hgb:gb<V1.heap.size:=by omega
 have HV1:=hid (show V1=(w.setCell ⟨b,4,none⟩ (.int .i64 (m:Int))).alloc (.cells #[.slice ro NR rc,.int .i64 sites,.slice (some ⟨gb,goff,none⟩) NB bc] 75)from by rw[hV1,hW1]);have HHW:=hid hlw1;obtain⟨bi,hbi⟩:∃ x,x=T.bi:=⟨_,rfl⟩
 obtain⟨ii,hi2⟩:∃ x,x=T.ii:=⟨_,rfl⟩
 rw[←hbi]at d0 c0 c1 c2 c3 c4 hkb;rw[←hi2]at d1;have HII:=hid hi2;obtain⟨bl_last,hl1⟩:∃ x,x=bk.last:=⟨_,rfl⟩
 obtain⟨bl_reg,hl2⟩:∃ x,x=bk.reg:=⟨_,rfl⟩
 obtain⟨bl_yes,hl3⟩:∃ x,x=bk.yes:=⟨_,rfl⟩
 obtain⟨bl_no,hl4⟩:∃ x,x=bk.no:=⟨_,rfl⟩
 rw[←hl1]at c1;rw[←hl2]at c2;rw[←hl3]at c3;rw[←hl4]at c4;have HLK:=hid (And.intro hl1 (And.intro hl2 (And.intro hl3 hl4)));clear h hG hf hW1 hV1 hb1 ht1 hst0 hst1 hz1 hx1 hbi hi2 hl1 hl2 hl3 hl4 hRES hsi d2 d3 d4 d5;go_enter Tryz.func122,Tryz.ntmps122;go_wp2_with fail;rw[←HV1.out];refine wp_region_held_drew (S:=zk (V1.heap.size) V1) (by kernel_rfl) (zk.drew _ _) (fun hSw=>?_);refine tH 0 (.pointer (some ⟨w.heap.size,0+2,none⟩)) hSw ?_;(try simp only[nS]);refine tG 1 (.slice (some ⟨gb,goff,none⟩) NB bc) hSw (fun W hW=>?_) ?_
 · have g2:=hW.cell (by dsimp only;omega) g2
   first|(go_simp;done)|rfl
 (try simp only[nS]);refine tH 2 (.pointer (some ⟨tb,o,none⟩)) hSw ?_;(try simp only[nS]);refine tH 3 (.pointer (some ⟨tb,o,none⟩)) hSw ?_;(try simp only[nS]);refine tH 4 (.pointer (some ⟨tb,o,none⟩)) hSw ?_;(try simp only[nS]);refine tG 5 (.int .i64 (bi:Int)) hSw (fun W hW=>?_) ?_
 · have d0:=hW.cell (by dsimp only;omega) d0
   first|(go_simp;done)|rfl
 (try simp only[nS]);refine tH 6 (.pointer (some ⟨gb,goff+bi*5,none⟩)) hSw ?_;(try simp only[nS]);refine tG 7 (.agg #[.slice iq il ic,.int .u8 bl_last,.int .i64 bl_reg,.int .i64 bl_yes,.int .i64 bl_no]) hSw (fun W hW=>?_) ?_
 · have c0:=hW.cell (by dsimp only;omega) c0
   have c1:=hW.cell (by dsimp only;omega) c1;have c2:=hW.cell (by dsimp only;omega) c2;have c3:=hW.cell (by dsimp only;omega) c3;have c4:=hW.cell (by dsimp only;omega) c4
   first|(go_simp;done)|rfl
 (try simp only[nS]);refine tR 8 (fun K hK=>?_);clear hSw;go_simp;refine hK.out _ _ (fun k hk=>(Below.heap_alloc _ _ _ (by show k<V1.heap.size;omega))) (fun hSw=>?_);clear hK K;(try simp only[nS]);refine tR 9 (fun K hK=>?_);clear hSw;go_simp;refine hK.out _ _ (fun k hk=>(Below.heap_alloc _ _ _ (by show k<V1.heap.size;omega))) (fun hSw=>?_);clear hK K;(try simp only[nS]);refine wpAnyH_done (by kernel_rfl) ?_ _;go_wp2_with fail;obtain⟨V2,hV2⟩:∃ V2,V2=(V1.alloc (.cells #[.slice iq il ic,.int .u8 bl_last,.int .i64 bl_reg,.int .i64 bl_yes,.int .i64 bl_no] 118)).drew:=⟨_,rfl⟩
 have hb2:Below V1.heap.size V1 V2:=by rw[hV2];exact below_drewN (ze V1 _) 1
 have hx2:V2.heap[V1.heap.size]? = some (.cells #[.slice iq il ic,.int .u8 bl_last,.int .i64 bl_reg,.int .i64 bl_yes,.int .i64 bl_no] 118 (0,0)):=by rw[hV2];exact (MapKept.heap_alloc V1 _).1
 have HX2:=hid hx2;have HST2:=hid (HST1.out.below hb2);have HS12:=hid hb2.size;obtain⟨x0,x1,x2,x3,x4⟩:=zx hx2;have hlX:=z8 hx2;have d1:=(hb2.cell (p:=⟨tb,o+1,none⟩) htb).trans d1;have htb:=Nat.lt_of_lt_of_le htb hb2.size;rw[←hV2];clear hV2 hb2 hx2 c0 c1 c2 c3 c4 g0 g1 g2 d0
 by_cases hlt:ii<il
 · have hd0:decide ((il:Int)≤(ii:Int))=false:=by simp;omega
   have hd2:decide (il≤ii)=false:=by simp;omega
   have hd3:¬ il≤ii:=by omega
   have hroom:=(HGB.out V1 HST1.out.but).ins.room;have hix:ii<bk.ins.length:=by rw[HLEN.out];exact hlt
   obtain⟨x,hx⟩:∃ x,bk.ins[ii]? = some x:=⟨_,List.getElem?_eq_getElem hix⟩
   have hins:=(HGB.out V2 HST2.out.but).ins
   obtain⟨gi,offi,hgie,hgi⟩:∃ gi offi,iq=some ⟨gi,offi,none⟩ ∧ gi<B:=by
    obtain⟨ao,cap,e,-,hh⟩:=hins.form;obtain⟨gi,offi,e2,hgi⟩:=hh (by omega);injection e with e3
    exact⟨gi,offi,e3.trans e2,hgi⟩
   subst hgie;have hroom2:il≤140737488351232:=by rw[←HLEN.out];exact hroom
   go_quiet (fail)
   go_wp2_with fail;obtain⟨V3,hV3⟩:∃ V3,V3=V2.drewN nq:=⟨_,rfl⟩
   have hb3:Below V2.heap.size V2 V3:=by rw[hV3];exact below_drewN (Below.refl _ _) nq
   have hst3:=HST2.out.below hb3;have HST3:=hid hst3;have hx3:=(hb3.block V1.heap.size hlX).trans HX2.out;obtain⟨x0,x1,x2,x3,x4⟩:=zx hx3;have hlX3:=z8 hx3;have hxc:=((HGB.out V3 hst3.but).ins.at rfl ii hix).2;rw[(List.getElem?_eq_some_iff.1 hx).2]at hxc;obtain⟨i0,i1,i2,i3,i4,i5⟩:=Go.Proofs.YtlboinokdhmacaaGreatDoor.ic hxc;have hgiV:gi<V3.heap.size:=by have:=hb3.size;omega
   obtain⟨htb3,-,d1,-,-,-,-⟩:=hst3.qt.cells;rw[←HII.out]at d1;obtain⟨xk,e0⟩:∃ y,y=x.k:=⟨_,rfl⟩
   obtain⟨xo,e1⟩:∃ y,y=x.o:=⟨_,rfl⟩
   obtain⟨xa,e2⟩:∃ y,y=x.a:=⟨_,rfl⟩
   obtain⟨xb,e3⟩:∃ y,y=x.b:=⟨_,rfl⟩
   obtain⟨xc,e4'⟩:∃ y,y=x.c:=⟨_,rfl⟩
   obtain⟨xn,e5⟩:∃ y,y=x.n:=⟨_,rfl⟩
   rw[←e0]at i0;rw[←e1]at i1;rw[←e2]at i2;rw[←e3]at i3;rw[←e4']at i4;rw[←e5]at i5;have HXE:=hid (And.intro e0 (And.intro e1 (And.intro e2 (And.intro e3 (And.intro e4' e5)))));have HXM:=hid hx;have HFIT:=hid (HH.out.fit x (List.mem_of_getElem? hx));have hw2:IntKind.i64.wrap ((ii:Int)+1)=((ii+1:Nat):Int):=by rw[show ((ii+1:Nat):Int)=(ii:Int)+1 by omega];exact IntWalk.i64_in _ (by omega)
   rw[←hV3];clear hV3 hb3 hst3 hx3 hxc hx hix hins hroom hroom2 e0 e1 e2 e3 e4' e5 hd0 hd2 hd3 x1 x2 x3 x4;refine wp_region_held_drew (S:=zk (V3.heap.size) V3) (by kernel_rfl) (zk.drew _ _) (fun hSw=>?_);refine tH 0 (.pointer (some ⟨V1.heap.size,0,none⟩)) hSw ?_;(try simp only[nS]);refine tG 1 (.slice (some ⟨gi,offi,none⟩) il ic) hSw (fun W hW=>?_) ?_
   · have x0:=hW.cell (by dsimp only;omega) x0
     first|(go_simp;done)|rfl
   (try simp only[nS]);refine tH 2 (.pointer (some ⟨tb,o,none⟩)) hSw ?_;(try simp only[nS]);refine tH 3 (.pointer (some ⟨tb,o,none⟩)) hSw ?_;(try simp only[nS]);refine tH 4 (.pointer (some ⟨tb,o+1,none⟩)) hSw ?_;(try simp only[nS]);refine tG 5 (.int .i64 (ii:Int)) hSw (fun W hW=>?_) ?_
   · have d1:=hW.cell (by dsimp only;omega) d1
     first|(go_simp;done)|rfl
   (try simp only[nS]);refine tH 6 (.pointer (some ⟨gi,offi+ii*6,none⟩)) hSw ?_;(try simp only[nS]);refine tG 7 (.agg #[.int .u8 xk,.int .u8 xo,.int .i64 xa,.int .i64 xb,.int .i64 xc,.int .i64 xn]) hSw (fun W hW=>?_) ?_
   · have i0:=hW.cell (by dsimp only;omega) i0
     have i1:=hW.cell (by dsimp only;omega) i1;have i2:=hW.cell (by dsimp only;omega) i2;have i3:=hW.cell (by dsimp only;omega) i3;have i4:=hW.cell (by dsimp only;omega) i4;have i5:=hW.cell (by dsimp only;omega) i5
     first|(go_simp;done)|rfl
   (try simp only[nS]);refine tR 8 (fun K hK=>?_);clear hSw;go_simp;refine hK.out _ _ (fun k hk=>(Below.heap_alloc _ _ _ (by show k<V3.heap.size;omega))) (fun hSw=>?_);clear hK K;(try simp only[nS]);refine tR 9 (fun K hK=>?_);clear hSw;go_simp;refine hK.out _ _ (fun k hk=>(Below.heap_alloc _ _ _ (by show k<V3.heap.size;omega))) (fun hSw=>?_);clear hK K;(try simp only[nS]);refine wpAnyH_done (by kernel_rfl) ?_ _;obtain⟨V4,hV4⟩:∃ V4,V4=(V3.alloc (.cells #[.int .u8 xk,.int .u8 xo,.int .i64 xa,.int .i64 xb,.int .i64 xc,.int .i64 xn] 159)).drew:=⟨_,rfl⟩
   have hb4:Below V3.heap.size V3 V4:=by rw[hV4];exact below_drewN (ze V3 _) 1
   have hx4:V4.heap[V3.heap.size]? = some (.cells #[.int .u8 xk,.int .u8 xo,.int .i64 xa,.int .i64 xb,.int .i64 xc,.int .i64 xn] 159 (0,0)):=by rw[hV4];exact (MapKept.heap_alloc V3 _).1
   have hst4:=HST3.out.below hb4;obtain⟨V5,hV5⟩:∃ V5,V5=V4.setCell ⟨tb,o+1,none⟩ (.int .i64 ((ii+1:Nat):Int)):=⟨_,rfl⟩
   have hst5:=hst4.cell (i:=1) (by omega) (hst4.qt.setII (ii+1));rw[←hV5]at hst5;have hx5:V5.heap[V3.heap.size]? = some (.cells #[.int .u8 xk,.int .u8 xo,.int .i64 xa,.int .i64 xb,.int .i64 xc,.int .i64 xn] 159 (0,0)):=by rw[hV5,Below.heap_setCell _ _ _ _ (by show V3.heap.size≠tb;omega)];exact hx4
   have hs45:V3.heap.size≤V5.heap.size:=Nat.le_of_lt (z8 hx5);have HX5:=hid hx5;have HST5:=hid hst5;obtain⟨htb4,-,d1,-,-,-,-⟩:=hst4.qt.cells;rw[←HII.out]at d1;have f1:=hst4.qt.frozen (o+1);obtain⟨j0,j1,j2,j3,j4,j5⟩:=zl hx4;have HV5:=hid (show V4.setCell ⟨tb,o+1,none⟩ (.int .i64 (wrap64 ((ii:Int)+1)))=V5 from by rw[hV5];exact congrArg (fun q=>V4.setCell ⟨tb,o+1,none⟩ (.int .i64 q)) ((ji _).symm.trans hw2));have hl34:=z8 hx4;have hne:V3.heap.size≠tb:=by omega
   have hres:=HRES.out;rw[←HII.out,HXM.out]at hres;simp only at hres;have HRE:=hid hres;rw[←hV4];clear hw2 i0 i1 i2 i3 i4 i5 x0 hb4 hV4 hx4 hst4 hV5 hst5 hx5 hres
   by_cases h12:xk=12
   · subst h12
     obtain⟨bb,hbbe,hbbl⟩:=yX (HFIT.out.b (by rw[←HXE.out.1];simp));obtain rfl:xb=(bb:Int):=HXE.out.2.2.2.1.trans hbbe;obtain⟨z,hz⟩:∃ z,T.regs[bb]? = some z:=⟨_,List.getElem?_eq_getElem hbbl⟩
     have HRF:=hid (show RES=(W,{ T with ii:=ii+1 },l++[z],if inside=true then 0 else 3)from by
      have hR:=HRE.out;rw[if_pos HXE.out.1.symm,hbbe,wD hz]at hR;exact hR)
     have hq:=HST5.out;obtain⟨rg,er,hrg,hrl⟩:=hq.qt.regs;have s1:=zT hrg bb z hz;obtain⟨htb5,-,-,d2,-,-,-⟩:=hq.qt.cells;rw[er]at d2;obtain⟨NR',hNR'⟩:∃ N,N=({ T with ii:=ii+1 }:RT).regs.length:=⟨_,rfl⟩
     rw[←hNR']at d2;have hb1:bb<NR':=by rw[hNR'];exact hbbl
     obtain⟨lq,lc,elv⟩:=hq.la.row.form';have c0:=zh hq.la.box 0 _ rfl;obtain⟨NL,hNL⟩:∃ N,N=l.length:=⟨_,rfl⟩
     rw[elv,←hNL]at c0;have k3:=(zl HX5.out).2.2.2.1;obtain⟨V6,hV6⟩:∃ V6,V6=V5.drew:=⟨_,rfl⟩
     have hst6:=hq.below (db hV6);obtain⟨V7,hV7⟩:∃ V7,V7=V6.alloc (.cells #[.int .i64 z] 2):=⟨_,rfl⟩
     have hb7:Below V6.heap.size V6 V7:=by rw[hV7];exact ze V6 _
     have hst7:=hst6.below hb7;obtain⟨v',w8,hrun,⟨q2,c2,ev'⟩,ow',hext,htail,hbut⟩:=jU ow V7 5 lv l z 85 V6.heap.size hst7.la.row (by rw[hV7];exact (MapKept.heap_alloc V6 _).1) HH.out.long;rw[←hNL]at ev';subst ev';rw[elv,←hNL,hV7]at hrun;have hcl:cl<V7.heap.size:=z8 hst7.la.box;have hbx:=(hbut.block cl hcl (by rw[hst7.la.lab];simp)).trans hst7.la.box;have hf8:=Lib.frozen_of_heap hbx 0;have hc8:=zh hbx 0 _ rfl;have hl8:=z8 hbx;rw[elv,←hNL]at hc8;obtain⟨w9,hw9⟩:∃ w9,w9=w8.setCell ⟨cl,0,none⟩ (.slice q2 (NL+1) c2):=⟨_,rfl⟩
     have hset:But ow' [4] w8 w9:=by rw[hw9];exact xX _ _ (by rw[hext cl hcl];exact hst7.la.lab)
     have hew:Ext ow ow' w:=fun k hk=>hext k (Nat.lt_of_lt_of_le hk hst7.but.size)
     have htbs:=hst7.qt.row.choose_spec.1;have h28:=hst7.qt.keeps hbut hext (by simp) (by simp;omega) (by simp;omega) (by simp;omega)
     have HFIN:=hid (show QSt ow b wd tv tw tb o j cl rs ws os (m:Int) W { T with ii:=ii+1 } (l++[z]) w w9 from
      ⟨ow',v,.slice q2 (NL+1) c2,hew,(hst7.qw.keeps hbut hext (by simp) (by simp)).keeps hset (.refl _ _) (by simp) (by simp),h28.keeps hset (.refl _ _) (by simp) (by simp;omega) (by simp;omega) (by simp;omega),
       ⟨by rw[hw9,heap_setCell_same w8 cl 0 _ _ _ hbx];rfl,by rw[hext cl hcl];exact hst7.la.lab,htail.keeps hset (.refl _ _) (by simp)⟩,
       by rw[hw9];exact (zw hst7.but (zi hbut (by simp))).set (p:=⟨cl,0,none⟩) (by simp[hst7.la.lab]) _,
       (hst7.tk.trans (TbK.of_but htbs hst7.qt.lab hbut (by simp))).trans (TbK.of_but h28.row.choose_spec.1 h28.lab hset (by simp))⟩)
     have hz5:V5.heap.size≤V6.heap.size:=by rw[hV6];exact Nat.le_refl _
     have hlx5:=z8 HX5.out;have hlr5:=z8 hrg;have hlc5:=z8 hq.la.box;have hs7:∀ k,k<V5.heap.size→V7.heap[k]? = V5.heap[k]?:=fun k hk=>(hb7.block k (Nat.lt_of_lt_of_le hk hz5)).trans (by rw[hV6];rfl)
     have hz7:V5.heap.size≤V7.heap.size:=Nat.le_trans hz5 hb7.size;have hwV:w.heap.size≤V3.heap.size:=HST3.out.but.size
     have HS7:=hid (show ∀ k,(k=cl∨k=tb∨k=rg∨k=V3.heap.size)→(V6.alloc (.cells #[.int .i64 z] 2)).heap[k]? = V5.heap[k]? from fun k hk=>by
      have hk5:k<V5.heap.size:=by rcases hk with h|h|h|h <;> rw[h] <;> assumption
      rw[←hV7];exact hs7 k hk5)
     have HS8:=hid (show ∀ k,(k=cl∨k=tb∨k=rg∨k=V3.heap.size)→w8.heap[k]? = V5.heap[k]? from fun k hk=>by
      have hk5:k<V5.heap.size:=by rcases hk with rfl|rfl|rfl|rfl <;> assumption
      rw[←hs7 k hk5];refine hbut.block k (Nat.lt_of_lt_of_le hk5 hz7) ?_;rcases hk with rfl|rfl|rfl|rfl
      · rw[hq.la.lab];simp
      · rw[hq.qt.lab];simp
      · rw[hrl];simp;omega
      · rw[HH.out.new _ hwV];simp)
     have HRUN:=hid hrun;have HV6:=hid hV6;have HW9:=hid hw9;have e3:=jA;clear hV6 hst6 hV7 hb7 hst7 hrun hext htail hbut hbx hw9 hset hew htbs h28 hq hrg hrl hNR' elv hNL hz hbbe er hs7 hwV;go_wp2_with fail;rw[HV5.out];refine yO (S:=zn (fun k=>k=cl∨k=tb∨k=rg∨k=V3.heap.size) V5) (fun j=>decide (14≤j)) (by kernel_rfl) (zn.drew _ _) (fun hSw=>?_);rw[←HV6.out];rw[←HV6.out]at hSw;refine lH 0 (.pointer (some ⟨cl,0,none⟩)) hSw ?_;(try simp only[nS]);refine lH 1 (.pointer (some ⟨cl,0,none⟩)) hSw ?_;(try simp only[nS]);refine lH 2 (.pointer (some ⟨cl,0,none⟩)) hSw ?_;(try simp only[nS]);refine lG 3 (.slice lq NL lc) hSw (fun W hW=>?_) ?_
     · have c0:=hW.cell (by dsimp only;omega) c0
       first|(go_simp;done)|rfl
     (try simp only[nS]);refine lH 4 (.pointer (some ⟨tb,o,none⟩)) hSw ?_;(try simp only[nS]);refine lH 5 (.pointer (some ⟨tb,o,none⟩)) hSw ?_;(try simp only[nS]);refine lH 6 (.pointer (some ⟨tb,o+2,none⟩)) hSw ?_;(try simp only[nS]);refine lG 7 (.slice (some ⟨rg,0,none⟩) NR' NR') hSw (fun W hW=>?_) ?_
     · have d2:=hW.cell (by dsimp only;omega) d2
       first|(go_simp;done)|rfl
     (try simp only[nS]);refine lH 8 (.pointer (some ⟨V3.heap.size,0+3,none⟩)) hSw ?_;(try simp only[nS]);refine lG 9 (.int .i64 (bb:Int)) hSw (fun W hW=>?_) ?_
     · have k3:=hW.cell (by dsimp only;omega) k3
       first|(go_simp;done)|rfl
     (try simp only[nS]);refine lH 10 (.pointer (some ⟨rg,bb,none⟩)) hSw ?_;(try simp only[nS]);refine lG 11 (.int .i64 z) hSw (fun W hW=>?_) ?_
     · have s1:=hW.cell (by dsimp only;omega) s1
       first|(go_simp;done)|rfl
     (try simp only[nS]);refine lR 12 (fun J hK=>?_);clear hSw;go_simp;refine hK.out _ _ (fun k hk=>HS7.out k hk) (fun hSw=>?_);clear hK J;(try simp only[nS]);refine lR 13 (fun J hK=>?_);clear hSw;refine Lib.wp_append_run _ _ _ _ _ rfl _ _ rfl rfl _ _ HRUN.out ?_;refine hK.out _ _ (fun k hk=>HS8.out k hk) (fun hSw=>?_);clear hK J;(try simp only[nS]);refine yP (rs:=[14]) (by kernel_rfl) (by simp) (by rfl) ?_;refine oR 14 (fun J hK=>?_);go_simp;refine hK.out _ _ ?_;clear hK J;(try simp only[nS]);refine oR 15 (fun J hK=>?_);go_simp;refine hK.out _ _ ?_;clear hK J;(try simp only[nS]);refine wpAny_done (by kernel_rfl) ?_ _;cases inside with
     | true =>
      go_wp2_with fail;rw[←HW9.out];go_ret;rw[HRF.out];exact⟨rfl,HFIN.out⟩
     | false =>
      go_wp2_with fail;rw[←HW9.out];go_ret;rw[HRF.out];exact⟨rfl,HFIN.out⟩
   · have e12:(xk==12)=false:=by simpa using h12
     by_cases h14:xk=14
     · subst h14
       go_wp2_with fail;rw[HV5.out];go_ret;have hR:=HRE.out;rw[if_neg (by rw[←HXE.out.1];exact h12),if_pos HXE.out.1.symm]at hR;rw[hR];exact⟨rfl,HST5.out.step⟩
     · have e14:(xk==14)=false:=by simpa using h14
       have hdo:=Vp HST5.out.qw HST5.out.qt (fun k hk=>HH.out.new k (Nat.le_trans HST5.out.but.size hk)) x HFIT.out (by rw[←HXE.out.1];exact h12) (by rw[←HXE.out.1];exact h14) mark;rw[←HXE.out.1,←HXE.out.2.1,←HXE.out.2.2.1,←HXE.out.2.2.2.1,←HXE.out.2.2.2.2.1,←HXE.out.2.2.2.2.2]at hdo;obtain⟨D,hD⟩:∃ D,D=doR W { T with ii:=ii+1 } x mark:=⟨_,rfl⟩
       have HRF:=hid (show RES=(D.1,{ D.2.1 with fin:=D.2.2 },l,if D.2.2=0 then 0 else 1)from by
        have hR:=HRE.out;rw[if_neg (by rw[←HXE.out.1];exact h12),if_neg (by rw[←HXE.out.1];exact h14),←hD]at hR;exact hR)
       rw[←hD]at hdo;have HDO:=hid hdo;have hx5:=HX5.out;obtain⟨k0,k1,k2,k3,k4,k5⟩:=zl hx5;clear h12 h14 hD hdo hx5;go_wp2_with fail;rw[HV5.out];refine HDO.out.mono ?_;rintro e w6 ⟨rfl,ow6,v6,g1,g2,g3,g4⟩;have HG:=hid (And.intro g1 (And.intro g2 (And.intro g3 g4)));obtain⟨htb6,-,-,-,-,-,d5⟩:=g3.cells;have f5:=g3.frozen (o+5);obtain⟨W',T',en⟩:=D;simp only at HRF HG f5;obtain⟨w9,hw9⟩:∃ w9,w9=w6.setCell ⟨tb,o+5,none⟩ (.int .u8 en):=⟨_,rfl⟩
       have HW9:=hid hw9;clear g1 g2 g3 g4 hw9 k0 k1 k2 k3 k4 k5
       have HFIN:=hid (show QSt ow b wd tv tw tb o j cl rs ws os (m:Int) W' { T' with fin:=en } l w w9 from by
        rw[HW9.out];obtain⟨g1,g2,g3,g4⟩:=HG.out;have hq:=HST5.out;obtain⟨p1,p2⟩:=g3.put 5 (by omega) (.int .u8 en);refine⟨ow6,v6,lv,fun k hk=>g1 k (Nat.lt_of_lt_of_le hk hq.but.size),g2.keeps p1 (.refl _ _) (by simp) (by simp),g3.setFin en,(hq.la.keeps g4 g1 (by simp;omega) (by simp;omega)).keeps p1 (.refl _ _) (by simp) (by simp), ?_,(hq.tk.trans (TbK.of_but hq.qt.row.choose_spec.1 hq.qt.lab g4 (by simp;omega))).trans p2⟩;exact (zw hq.but (zi g4 (by simp))).set (p:=⟨tb,o+5,none⟩) (by simp[hq.qt.lab]) _)
       by_cases hen:en=0
       · have hd1:(en != 0)=false:=by simpa using hen
         have hif:(if en=0 then 0 else 1:Nat)=0:=if_pos hen;have HIF:=hid hif;clear hen hif;go_wp2_with fail;rw[←HW9.out];go_ret;rw[HRF.out,HIF.out];exact⟨rfl,HFIN.out⟩
       · have hd1:(en != 0)=true:=by simpa using hen
         have hif:(if en=0 then 0 else 1:Nat)=1:=if_neg hen;have HIF:=hid hif;clear hen hif;go_wp2_with fail;rw[←HW9.out];go_ret;rw[HRF.out,HIF.out];exact⟨rfl,HFIN.out⟩
 · have hd0:decide ((il:Int)≤(ii:Int))=true:=by simp;omega
   have hd2:decide (il≤ii)=true:=by simp;omega
   have hd3:il≤ii:=by omega
   go_quiet (fail)
   obtain⟨V3,hV3⟩:∃ V3,V3=V2.drewN nq:=⟨_,rfl⟩
   have hb3:Below V2.heap.size V2 V3:=by rw[hV3];exact below_drewN (Below.refl _ _) nq
   have HST3:=hid (HST2.out.below hb3);have hx3:=(hb3.block V1.heap.size hlX).trans HX2.out;obtain⟨x0,x1,x2,x3,x4⟩:=zx hx3;have hlX3:=z8 hx3;have HLA:=hid (Vl HST3.out.qt iq il ic HH.out.last HH.out.kind);rw[←HLK.out.1,←HLK.out.2.1,←HLK.out.2.2.1,←HLK.out.2.2.2]at HLA
   have HRE:=hid (show RES=(W,(yx T bk).1,l,if (yx T bk).2=true then 0 else 1)from by
    have hn:bk.ins[T.ii]? = none:=List.getElem?_eq_none (by rw[HLEN.out,←HII.out];omega);have h:=HRES.out;rw[hn]at h;exact h)
   rw[←hV3];clear hV3 hb3 hx3 d1 htb;go_wp2_with fail;refine HLA.out.mono ?_;rintro e w5 ⟨rfl,p1,p2,p3⟩;have HP:=hid (show QSt ow b wd tv tw tb o j cl rs ws os (m:Int) W (yx T bk).1 l w w5 from⟨ow,v,lv,.refl _ _,HST3.out.qw.keeps p2 (.refl _ _) (by simp) (by simp),p1,HST3.out.la.keeps p2 (.refl _ _) (by simp) (by simp),zw HST3.out.but (zi p2 (by simp)),HST3.out.tk.trans p3⟩);clear p1 p2 p3;cases hlw:(yx T bk).2 with
   | true =>
    go_wp2_with fail;go_ret;rw[HRE.out,hlw];exact⟨rfl,HP.out⟩
   | false =>
    go_wp2_with fail;go_ret;rw[HRE.out,hlw];exact⟨rfl,HP.out⟩
