import Derived.Test.YtlboinokdhmacaaGreatDoorIrBegins
import Derived.Test.YtlboinokdhmacaaGreatDoorCdSize
namespace Go.Proofs.YtlboinokdhmacaaGreatDoor
set_option maxHeartbeats 64000000
set_option maxRecDepth 1000000
open Lib(hid)
open Go.RowKit
attribute [local go_sem ↓] zL zJ
theorem uJ {n:Nat} {k:Int} (h:xY n k=true):0≤k∧k<(n:Int):=by
 unfold xY at h
 simpa using h
theorem Yc {R:List Bool} {n:Nat} {b:Bk} (h:wX R n b=true):∀ y ∈ zC b,0≤y∧y<(n:Int):=by
 intro y hy;unfold wX at h;unfold zC at hy;split at hy
 · rename_i h1
   rw[if_pos h1]at h;rw[List.mem_singleton.1 hy];exact uJ h
 · rename_i h1
   rw[if_neg h1]at h;split at hy
   · rename_i h2
     rw[if_pos h2]at h;simp only[Bool.and_eq_true]at h;rcases List.mem_cons.1 hy with rfl|hy
     · exact uJ h.2.1
     · rw[List.mem_singleton.1 hy];exact uJ h.2.2
   · cases hy
theorem YB {R:List Bool} {W:Int} {nb:Nat}:∀ (l:List Bk) (n:Nat) (M:List Bool),yz R W nb n M l=none→∀ b ∈ l,lastB R nb b=true:=by
 intro l;induction l with
 | nil=>intro n M _ b hb;cases hb
 | cons a l ih =>
  intro n M h b hb;rw[yz]at h;split at h
  · cases h
  · split at h
    · rename_i hl
      rcases List.mem_cons.1 hb with rfl|hb
      · exact hl
      · exact ih _ _ h b hb
    · cases h
theorem Yb {R:List Bool} {n:Nat} {b:Bk} (h:lastB R n b=true):wX R n b=true:=by
 unfold lastB at h;simp only[Bool.and_eq_true]at h;exact h.2.2
theorem Z8 {g:Gr} (h:xM g=0):(0≤g.sites∧g.sites≤8192)∧1≤g.blocks.length∧g.blocks.length≤4096:=by
 unfold xM at h;split at h
 · cases h
 · split at h
   · cases h
   · split at h
     · cases h
     · omega
def cgV (r:(Nat × Nat) × Int):Value:=.tuple #[.agg #[.int .i64 (r.1.1:Int),.int .i64 (r.1.2:Int)],.int .i64 r.2]
theorem z1c (B:Nat) (g:Gr) (W:Int) (w:World) (hI:GIn w B g) (hBw:B≤w.heap.size) (hW:-9223372036854775808≤W∧W≤9223372036854775807) :
 Calls Tryz.prog 177 #[.agg #[g.rv,.int .i64 g.sites,g.bv],.int .i64 W] w fun e w'=>e = .returned (cgV (yH W g))∧Below w.heap.size w w':=by
 obtain⟨Y,hY⟩:∃ Y,Y=yH W g:=⟨_,rfl⟩
 rw[←hY];unfold yH wF at hY;obtain⟨ro,rc,er,-,-⟩:=hI.rlies.form;obtain⟨bo,bcp,eb,-,-⟩:=hI.blies.form;have hI2:=fun (u:World) (hu:Below w.heap.size w u)=>hI.keeps (hu.mono hBw)
 have hB2:=fun (u:World) (hu:Below w.heap.size w u)=>Nat.le_trans hBw hu.size
 have C1:=hid (fun (u:World) (hu:Below w.heap.size w u)=>z18 B g u (hI2 u hu) (hB2 u hu));have C2:=hid (fun (u:World) (hu:Below w.heap.size w u) (hs:0≤g.sites∧g.sites≤8192)=>VZ B g W u (hI2 u hu) (hB2 u hu) hs hW);have C3:=hid (fun (c m:Nat) (M:List Bool) (u:World) (hu:zP u B c m g W M)=>UA B c m g W M u hu);have C4:=hid (fun (u:World) (hu:Below w.heap.size w u) (h1:1≤g.blocks.length∧g.blocks.length≤4096) (h2:∀ b ∈ g.blocks,∀ y ∈ zC b,0≤y∧y<(g.blocks.length:Int))=>z2g B g u (hI2 u hu) (hB2 u hu) h1 h2);have C6:=hid (fun (gb n:Nat) (l:List Nat) (T:TypeId) (fr:Nat × Nat) (u:World) (hu:Below w.heap.size w u)=>UC B g u gb n l T fr (hI2 u hu) (hB2 u hu));clear hI hI2 hB2;obtain⟨W0,hW0⟩:∃ W0,W0=(w.alloc (.cells #[g.rv,.int .i64 g.sites,g.bv] 75)).alloc (.cells #[.int .i64 0,.int .i64 0] 92):=⟨_,rfl⟩
 have hz0:W0.heap.size=w.heap.size+2:=by rw[hW0];simp
 have z1:(w.alloc (.cells #[g.rv,.int .i64 g.sites,g.bv] 75)).heap.size=w.heap.size+1:=by simp
 have hB0:Below w.heap.size w W0:=by rw[hW0];exact (ze w _).alloc (by omega) _
 have hG0:W0.heap[w.heap.size]? = some (.cells #[g.rv,.int .i64 g.sites,g.bv] 75 (0,0)):=by rw[hW0,Below.heap_alloc _ _ _ (by omega)];exact (MapKept.heap_alloc _ _).1
 have hS0:W0.heap[w.heap.size+1]? = some (.cells #[.int .i64 0,.int .i64 0] 92 (0,0)):=by rw[hW0,←z1];exact (MapKept.heap_alloc _ _).1
 have HGQ:=hid (fun (u:World) (hu:Below W0.heap.size W0 u)=>yl ((hu.block w.heap.size (by omega)).trans hG0));have HSQ:=hid (fun (u:World) (hu:Below W0.heap.size W0 u)=>(hu.block (w.heap.size+1) (by omega)).trans hS0);have HBW:=hid (fun (u:World) (hu:Below W0.heap.size W0 u)=>hB0.trans (hu.mono (show w.heap.size≤W0.heap.size by omega)));obtain⟨q0,q1,q2⟩:=yl hG0;rw[hW0]at q0 q1 q2;have HW0:=hid hW0;obtain⟨E,hE⟩:∃ E,E=xM g:=⟨_,rfl⟩
 have hsz:=fun (h:E=0)=>Z8 (hE.symm.trans h)
 have HSZ:=hid hsz;rw[←hE]at C1 hY;obtain⟨Z,hZ⟩:∃ Z,Z=yz g.refs W g.blocks.length 0 (List.replicate g.sites.toNat false) g.blocks:=⟨_,rfl⟩
 have HZN:=hid (fun (h:Z=none) (b:Bk) (hb:b ∈ g.blocks)=>Yc (Yb (YB _ _ _ (hZ.symm.trans h) b hb)));rw[←hZ]at hY;have HZ:=hid hZ;have HYY:=hid hY;have HC1:=hid (C1.out W0 hB0);have HER:=hid er;have HEB:=hid eb;have e1:=zH 92 #[] #[.int .i64 0,.int .i64 0] (by kernel_rfl);simp only[er,eb]at q0 q1 q2 HW0 HGQ HC1 C2 C4 C6 ⊢;clear hW0 hz0 z1 hB0 hG0 hS0 hE hsz hZ hY C1 er eb;go_enter Tryz.func177,Tryz.ntmps177;go_wp2_with fail;rw[←HW0.out];clear q0 q1 q2;refine HC1.out.mono ?_;rintro e u1 ⟨rfl,hb1⟩;have HU:=hid hb1;obtain⟨q0,q1,q2⟩:=HGQ.out u1 hb1;have hso:=HSQ.out u1 hb1;have HSO:=hid hso;have f0:=Lib.frozen_of_heap hso 0;have f1:=Lib.frozen_of_heap hso 1;obtain⟨s0,s1⟩:=zt hso;have hwu:w.heap.size+1<u1.heap.size:=(Array.getElem?_eq_some_iff.1 hso).1;have hwv:w.heap.size<u1.heap.size:=by omega
 clear hso;clear hb1
 by_cases hE0:E=0
 · subst hE0
   have hY2:=HYY.out;rw[if_pos rfl]at hY2;have HY2:=hid hY2;clear hY2 f0 f1 s0 s1;go_wp2_with fail;refine (C2.out u1 (HBW.out u1 HU.out) (HSZ.out (by trivial)).1).mono ?_;rintro e u2 ⟨c,m,rfl,hck,hb2,hc2,hm2⟩;have HB2:=hid hb2;have HCK:=hid hck;clear hck hb2 q0 q1 q2 hc2 hwu;go_wp2_with fail;refine (C3.out c m _ u2 HCK.out).mono ?_;rintro e u3 ⟨rfl,ha3⟩;have hb3:=HB2.out.trans (ha3.below HB2.out.size hm2);have HU1:=HU;have hu3:=HU1.out.trans (hb3.mono HU1.out.size);clear HU HSO;have HU:=hid hu3;obtain⟨q0,q1,q2⟩:=HGQ.out u3 hu3;have hso:=HSQ.out u3 hu3;have HSO:=hid hso;have f0:=Lib.frozen_of_heap hso 0;have f1:=Lib.frozen_of_heap hso 1;obtain⟨s0,s1⟩:=zt hso;have hwu:w.heap.size+1<u3.heap.size:=(Array.getElem?_eq_some_iff.1 hso).1;have hwv:w.heap.size<u3.heap.size:=by omega
   clear hso;clear hu3 ha3 hb3;rw[←HZ.out];cases Z with
   | some nk =>
    obtain⟨a,k⟩:=nk;have HYF:=hid (show Y=((a,k),14)from HY2.out);simp only[vP];obtain⟨y0,y1⟩:=zt (MapKept.heap_alloc u3 (.cells #[.int .i64 (a:Int),.int .i64 (k:Int)] 92)).1;go_wp2_with fail;refine bodyPost_ret (v:=.tuple #[.agg #[.int .i64 (a:Int),.int .i64 (k:Int)],.int .i64 14]) (yw (p:=4) (u:=5) rfl _ _ (w.heap.size+1) _ _ _ rfl rfl ((Below.heap_alloc _ _ _ (by simp[World.setCell];omega)).trans (y9 HSO.out _ _))) rfl ?_;exact⟨by rw[HYF.out];rfl,(((HBW.out _ HU.out).setCell (by show w.heap.size≤w.heap.size+1;omega) _).setCell (by show w.heap.size≤w.heap.size+1;omega) _).alloc (by simp[World.setCell];omega) _⟩
   | none =>
    have HYF:=hid (show Y=(match yZ 0 (yo g.blocks)with|some n=>((n,0),14)|none=>match zU (yo g.blocks) 0 g.blocks with|some at'=>(at',14)|none=>((0,0),0))from HY2.out);have HOK:=hid (HZN.out (by trivial));clear f0 f1 s0 s1 HSO;have hB4:Below u3.heap.size u3 (u3.alloc (.cells #[.int .i64 0,.int .i64 0] 92)):=ze u3 _;obtain⟨u4,hu4⟩:∃ u4,u4=u3.alloc (.cells #[.int .i64 0,.int .i64 0] 92):=⟨_,rfl⟩
    rw[←hu4]at hB4;have hU4:=HU.out.trans (hB4.mono HU.out.size);have HC4:=hid (C4.out u4 (HBW.out u4 hU4) (HSZ.out (by trivial)).2 HOK.out);have HU4:=hid hU4;have HW4:=hid hu4;clear hB4 hu4 hU4;simp only[vP];go_wp2_with fail;rw[←HW4.out];refine HC4.out.mono ?_;rintro e u5 ⟨gs,rfl,hgs,hsd,hsl,hs3,hb5⟩;have hHU5:=HU4.out.trans (hb5.mono HU4.out.size);clear HU;have HU:=hid hHU5;obtain⟨q0,q1,q2⟩:=HGQ.out u5 hHU5;have hso:=HSQ.out u5 hHU5;have HSO:=hid hso;have f0:=Lib.frozen_of_heap hso 0;have f1:=Lib.frozen_of_heap hso 1;obtain⟨s0,s1⟩:=zt hso;have hwu:w.heap.size+1<u5.heap.size:=(Array.getElem?_eq_some_iff.1 hso).1;have hwv:w.heap.size<u5.heap.size:=by omega
    clear hso;have hgs5:gs<u5.heap.size:=(Array.getElem?_eq_some_iff.1 hsd).1;have HSD:=hid hsd;have HSL:=hid hsl;have HS3:=hid hs3;have hn42:=(HSZ.out (by trivial)).2.2;have HC5:=hid (UB gs g.blocks.length (yo g.blocks) _ _ u5 hsd hsl.symm hn42);have HC6:=hid (fun (u:World) (hu:Below w.heap.size w u) (hl:u.heap[gs]? = some (.cells (wW (yo g.blocks)) 361 (0,0)))=>C6.out gs g.blocks.length (yo g.blocks) _ _ u hu hl hsl.symm hsl hs3 hn42);obtain⟨bt,hbt⟩:∃ bt,bt=yo g.blocks:=⟨_,rfl⟩
    clear hsd hsl hs3 hHU5 hb5 f0 f1 s0 s1 hbt bt;go_wp2_with fail;refine HC5.out.mono ?_;rintro e u6 ⟨rfl,hb6⟩;have hU6:=HU.out.trans (hb6.mono HU.out.size);have HSD6:=hid ((hb6.block gs hgs5).trans HSD.out);clear HU HSO q0 q1 q2;have HU:=hid hU6;obtain⟨q0,q1,q2⟩:=HGQ.out u6 hU6;have hso:=HSQ.out u6 hU6;have HSO:=hid hso;have f0:=Lib.frozen_of_heap hso 0;have f1:=Lib.frozen_of_heap hso 1;obtain⟨s0,s1⟩:=zt hso;have hwu:w.heap.size+1<u6.heap.size:=(Array.getElem?_eq_some_iff.1 hso).1;have hwv:w.heap.size<u6.heap.size:=by omega
    clear hso;clear hU6 hb6;cases hbo:yZ 0 (yo g.blocks)with
    | some a =>
     have HYG:=hid (show Y=((a,0),14)by rw[HYF.out,hbo]);clear hbo;simp only[vP,Option.map_some];obtain⟨y0,y1⟩:=zt (MapKept.heap_alloc u6 (.cells #[.int .i64 (a:Int),.int .i64 ((0:Nat):Int)] 92)).1;go_wp2_with fail;refine bodyPost_ret (v:=.tuple #[.agg #[.int .i64 (a:Int),.int .i64 0],.int .i64 14]) (yw (p:=4) (u:=5) rfl _ _ (w.heap.size+1) _ _ _ rfl rfl ((Below.heap_alloc _ _ _ (by simp[World.setCell];omega)).trans (y9 HSO.out _ _))) rfl ?_;exact⟨by rw[HYG.out];rfl,(((HBW.out _ HU.out).setCell (by show w.heap.size≤w.heap.size+1;omega) _).setCell (by show w.heap.size≤w.heap.size+1;omega) _).alloc (by simp[World.setCell];omega) _⟩
    | none =>
     have HYG:=hid (show Y=(match zU (yo g.blocks) 0 g.blocks with|some at'=>(at',14)|none=>((0,0),0))by rw[HYF.out,hbo]);clear hbo f0 f1 s0 s1 HSO;simp only[vP,Option.map_none];have hB7:Below u6.heap.size u6 (u6.alloc (.cells #[.int .i64 0,.int .i64 0] 92)):=ze u6 _;obtain⟨u7,hu7⟩:∃ u7,u7=u6.alloc (.cells #[.int .i64 0,.int .i64 0] 92):=⟨_,rfl⟩
     rw[←hu7]at hB7;have hU7:=HU.out.trans (hB7.mono HU.out.size);have hgs6:gs<u6.heap.size:=(Array.getElem?_eq_some_iff.1 HSD6.out).1;have HC7:=hid (HC6.out u7 (HBW.out u7 hU7) ((hB7.block gs hgs6).trans HSD6.out));have HU7:=hid hU7;have HW7:=hid hu7;clear hB7 hu7 hU7;go_wp2_with fail;rw[←HW7.out];refine HC7.out.mono ?_;rintro e u8 ⟨rfl,hb8⟩;have hU8:=HU7.out.trans (hb8.mono HU7.out.size);clear HU q0 q1 q2;have HU:=hid hU8;have hso:=HSQ.out u8 hU8;have HSO:=hid hso;have f0:=Lib.frozen_of_heap hso 0;have f1:=Lib.frozen_of_heap hso 1;obtain⟨s0,s1⟩:=zt hso;have hwu:w.heap.size+1<u8.heap.size:=(Array.getElem?_eq_some_iff.1 hso).1;have hwv:w.heap.size<u8.heap.size:=by omega
     clear hso;clear hU8 hb8;cases hmi:zU (yo g.blocks) 0 g.blocks with
     | some nk =>
      obtain⟨a,k⟩:=nk;have HYH:=hid (show Y=((a,k),14)by rw[HYG.out,hmi]);clear hmi;simp only[vP];obtain⟨y0,y1⟩:=zt (MapKept.heap_alloc u8 (.cells #[.int .i64 (a:Int),.int .i64 (k:Int)] 92)).1;go_wp2_with fail;refine bodyPost_ret (v:=.tuple #[.agg #[.int .i64 (a:Int),.int .i64 (k:Int)],.int .i64 14]) (yw (p:=4) (u:=5) rfl _ _ (w.heap.size+1) _ _ _ rfl rfl ((Below.heap_alloc _ _ _ (by simp[World.setCell];omega)).trans (y9 HSO.out _ _))) rfl ?_;exact⟨by rw[HYH.out];rfl,(((HBW.out _ HU.out).setCell (by show w.heap.size≤w.heap.size+1;omega) _).setCell (by show w.heap.size≤w.heap.size+1;omega) _).alloc (by simp[World.setCell];omega) _⟩
     | none =>
      have HYH:=hid (show Y=((0,0),0)by rw[HYG.out,hmi]);clear hmi;simp only[vP];go_wp2_with fail;refine bodyPost_ret (v:=.tuple #[.agg #[.int .i64 0,.int .i64 0],.int .i64 0]) (yw (p:=4) (u:=5) rfl _ _ (w.heap.size+1) _ _ _ rfl rfl ((Below.heap_alloc _ _ _ (by simp[World.setCell];omega)).trans (y9 HSO.out _ _))) rfl ?_;exact⟨by rw[HYH.out];rfl,(((HBW.out _ HU.out).setCell (by show w.heap.size≤w.heap.size+1;omega) _).setCell (by show w.heap.size≤w.heap.size+1;omega) _).alloc (by simp[World.setCell];omega) _⟩
 · have hY2:=HYY.out
   rw[if_neg hE0]at hY2;have HYF:=hid (show Y=((0,0),E)from hY2);have hE1:(E==0)=false:=by simp only[beq_eq_false_iff_ne,ne_eq];exact hE0
   clear hE0 hY2;go_wp2_with fail;refine bodyPost_ret (v:=.tuple #[.agg #[.int .i64 0,.int .i64 0],.int .i64 E]) (yw (p:=4) (u:=5) rfl _ _ (w.heap.size+1) _ _ _ rfl rfl (y9 HSO.out _ _)) rfl ?_;exact⟨by rw[HYF.out];rfl,((HBW.out _ HU.out).setCell (by show w.heap.size≤w.heap.size+1;omega) _).setCell (by show w.heap.size≤w.heap.size+1;omega) _⟩
def ckV (r:Nat × (Nat × Nat) × Int):Value:=.tuple #[.int .i64 (r.1:Int),.agg #[.int .i64 (r.2.1.1:Int),.int .i64 (r.2.1.2:Int)],.int .i64 r.2.2]
theorem vz {fn:Func} {t p u:Tmp} (h:fn.results=#[.tmp t,.cell p 92,.tmp u]) (tmps:Array Value) (w:World) (g:Nat) (a b x y:Value) (ht:tmps.getD t undef=y) (hp:tmps.getD p undef = .pointer (some ⟨g,0,none⟩)) (hu:tmps.getD u undef=x) (hr:w.heap[g]? = some (.cells #[a,b] 92 (0,0))) :
 (results fn tmps).run Tryz.prog w = .ok (.tuple #[y,.agg #[a,b],x]) w:=by
 have h2:=run_loadVar_row (P:=Tryz.prog) w g 92 92 #[a,b] (0,0) ((Tryz.prog.underlying 92).getD (.array 0 0)) hr (by kernel_rfl) (by kernel_rfl) (by kernel_rfl)
 have h3:(results fn tmps).run Tryz.prog w=((asAddr (tmps.getD p undef)).run Tryz.prog w).andThen fun a w₁=>((loadVar 92 a).run Tryz.prog w₁).andThen fun v w₂=>.ok (.tuple #[tmps.getD t undef,v,tmps.getD u undef]) w₂:=by
  simp only[results,h];simp[Sem.run_bind,Result.andThen]
 rw[h3,hp,ht,hu];show ((loadVar 92 ⟨g,0,none⟩).run Tryz.prog w).andThen _=_
 rw[h2]
 rfl
theorem z1b (W:Int) (n:Nat) (g:Gr) (l:List Gr) (a k:Nat) (e:Int) (h:yH W g=((a,k),e)):xV W n (g :: l)=if e=0 then xV W (n+1) l else (n,(a,k),e):=by
 rw[xV,h]
theorem z16 (B:Nat) (c:Cd) (w:World) (hI:CIn w B c) (hBw:B≤w.heap.size) :
 Calls Tryz.prog 117 #[.agg #[.int .i64 c.words,c.tv]] w fun e w'=>e = .returned (ckV (xW c.words c.threads))∧Below w.heap.size w w':=by
 obtain⟨Y,hY⟩:∃ Y,Y=xW c.words c.threads:=⟨_,rfl⟩
 rw[←hY];unfold xW at hY;have hW:=hI.words;obtain⟨bo,bcp,eb,hbl,hbg⟩:=hI.tlies.form;have hr4:=hI.tlies.room;have HTL:=hid hI.tlies;have HTI:=hid hI.threads;clear hI;obtain⟨W,tv,threads⟩:=c;simp only at *;subst eb;obtain⟨N,hN⟩:∃ N,N=threads.length:=⟨_,rfl⟩
 rw[←hN]at hY hbl hbg HTL hr4;rw[←hN];obtain⟨W0,hW0⟩:∃ W0,W0=(w.alloc (.cells #[.int .i64 W,.slice bo N bcp] 24)).alloc (.cells #[.int .i64 0,.int .i64 0] 92):=⟨_,rfl⟩
 have hz0:W0.heap.size=w.heap.size+2:=by rw[hW0];simp
 have z1:(w.alloc (.cells #[.int .i64 W,.slice bo N bcp] 24)).heap.size=w.heap.size+1:=by simp
 have hB0:Below w.heap.size w W0:=by rw[hW0];exact (ze w _).alloc (by omega) _
 have hG0:W0.heap[w.heap.size]? = some (.cells #[.int .i64 W,.slice bo N bcp] 24 (0,0)):=by rw[hW0,Below.heap_alloc _ _ _ (by omega)];exact (MapKept.heap_alloc _ _).1
 have hS0:W0.heap[w.heap.size+1]? = some (.cells #[.int .i64 0,.int .i64 0] 92 (0,0)):=by rw[hW0,←z1];exact (MapKept.heap_alloc _ _).1
 have HSQ:=hid (fun (u:World) (hu:Below W0.heap.size W0 u)=>(hu.block (w.heap.size+1) (by omega)).trans hS0);have HGQ:=hid (fun (u:World) (hu:Below W0.heap.size W0 u)=>zt ((hu.block w.heap.size (by omega)).trans hG0));have HBW:=hid (fun (u:World) (hu:Below W0.heap.size W0 u)=>hB0.trans (hu.mono (show w.heap.size≤W0.heap.size by omega)));have HC:=hid (fun (g:Gr) (hg:g ∈ threads) (u:World) (hu:Below w.heap.size w u)=>z1c B g W u ((HTI.out g hg).keeps (hu.mono hBw)) (Nat.le_trans hBw hu.size) hW);obtain⟨q0,q1⟩:=zt hG0;have hso:=HSQ.out W0 (Below.refl _ _);have HSO:=hid hso;have f0:=Lib.frozen_of_heap hso 0;have f1:=Lib.frozen_of_heap hso 1;obtain⟨s0,s1⟩:=zt hso;have hB00:=hid hB0;have e1:=zH 92 #[] #[.int .i64 0,.int .i64 0] (by kernel_rfl);have HN:=hid hN;have HG2:=hid hbg;have HZ0:=hid hz0;have hz:w.heap.size+1<W0.heap.size:=by omega
 have hz':w.heap.size<W0.heap.size:=by omega
 have HW0:=hid hW0;rw[hW0]at q0 q1 f0 f1 s0 s1;clear hN hbg hB0 hG0 hS0 hso z1 hW0 hz0
 by_cases a1:65536<W
 · rw[if_pos (.inl a1)]at hY
   have HYF:=hid hY;clear hY;go_enter Tryz.func117,Tryz.ntmps117;go_wp2_with fail
   try rw[←HW0.out]
   refine bodyPost_ret (v:=.tuple #[.int .i64 0,.agg #[.int .i64 0,.int .i64 0],.int .i64 3]) (vz (t:=2) (p:=3) (u:=4) rfl _ _ (w.heap.size+1) _ _ _ _ rfl rfl rfl HSO.out) rfl ?_;exact⟨by rw[HYF.out];rfl,hB00.out⟩
 by_cases a2:4<N
 · rw[if_pos (.inr a2)]at hY
   have HYF:=hid hY;clear hY;go_enter Tryz.func117,Tryz.ntmps117;go_wp2_with fail
   try rw[←HW0.out]
   refine bodyPost_ret (v:=.tuple #[.int .i64 0,.agg #[.int .i64 0,.int .i64 0],.int .i64 3]) (vz (t:=2) (p:=3) (u:=4) rfl _ _ (w.heap.size+1) _ _ _ _ rfl rfl rfl HSO.out) rfl ?_;exact⟨by rw[HYF.out];rfl,hB00.out⟩
 rw[if_neg (by omega)]at hY
 by_cases a3:W<0
 · rw[if_pos a3]at hY
   have HYF:=hid hY;clear hY;go_enter Tryz.func117,Tryz.ntmps117;go_wp2_with fail
   try rw[←HW0.out]
   refine bodyPost_ret (v:=.tuple #[.int .i64 0,.agg #[.int .i64 0,.int .i64 0],.int .i64 14]) (vz (t:=2) (p:=3) (u:=4) rfl _ _ (w.heap.size+1) _ _ _ _ rfl rfl rfl HSO.out) rfl ?_;exact⟨by rw[HYF.out];rfl,hB00.out⟩
 rw[if_neg a3]at hY;have HY:=hid hY;clear hY s0 s1 f0 f1;go_enter Tryz.func117,Tryz.ntmps117;go_wp2_with fail;rw[←HW0.out];clear q0 q1
 go_loopw [28] (fun q wr=>∃ p:Nat,p≤N∧q = .int .i64 p∧Below W0.heap.size W0 wr∧Hid (Y=xV W p (threads.drop p))) (fun q _=>N - (intOf q).toNat)
 case atStart=>exact⟨0,Nat.zero_le _,rfl,Below.refl _ _,HY⟩
 case round =>
  obtain⟨p,hp,rfl,hB,hD⟩:=hrel
  rename World=>U
  have hzU:=hB.size;have hso:=HSQ.out U hB;obtain⟨q0,q1⟩:=HGQ.out U hB;have hd:=hD.out
  by_cases hlt:p<N
  · have hpx:p<threads.length:=by rw[←HN.out];exact hlt
    obtain⟨g0,off,rfl,hg0⟩:=HG2.out (by omega);have hat:=((HTL.out.below ((HBW.out U hB).mono hBw)).at rfl p hpx).2;have hmem:=List.getElem_mem hpx;rw[List.drop_eq_getElem_cons hpx]at hd;generalize threads[p]=g at hat hmem hd;have hgi:=(HTI.out g hmem).keeps ((HBW.out U hB).mono hBw);obtain⟨p0,p1,p2⟩:=gc3 hat;obtain⟨U1,hU1⟩:∃ U1,U1=U.alloc (.cells #[g.rv,.int .i64 g.sites,g.bv] 75):=⟨_,rfl⟩
    have hBU:Below U.heap.size U U1:=by rw[hU1];exact ze U _
    have hC:=HC.out g hmem U1 ((HBW.out U hB).trans (hBU.mono (by omega)));obtain⟨y0,y1,y2⟩:=yl (MapKept.heap_alloc U (.cells #[g.rv,.int .i64 g.sites,g.bv] 75)).1;obtain⟨⟨⟨a,k⟩,er⟩,hr⟩:∃ r,yH W g=r:=⟨_,rfl⟩
    rw[z1b W p g _ a k er hr]at hd;rw[hr]at hC;obtain⟨ro,rc,e2,-,-⟩:=hgi.rlies.form;obtain⟨bo2,bcp2,e3,-,-⟩:=hgi.blies.form;have HU1:=hid hU1;rw[e2,e3]at HU1 hC;rw[e2]at p0;rw[e3]at p2;rw[e2,e3]at y0 y1 y2;have HC1:=hid hC;have HB1:=hid (hB.trans (hBU.mono hzU));have hgU:g0<U.heap.size:=by omega
    have hwU:w.heap.size<U.heap.size:=by omega
    clear hB hso hat hmem hgi hU1 hBU hC hr e2 e3 hD;have HD:=hid hd;clear hd;go_wp2_with fail;rw[←HU1.out];refine HC1.out.mono ?_;rintro e u2 ⟨rfl,hb2⟩;have hU2:=HB1.out.trans (hb2.mono HB1.out.size);have HB2:=hid hU2;have hso:=HSQ.out u2 hU2;clear q0 q1 p0 p1 p2 y0 y1 y2 hb2 hU2;simp only[cgV]
    by_cases he:er=0
    · subst he
      have hd:=HD.out;rw[if_pos rfl]at hd;have HD2:=hid hd;have HB3:=hid (HB2.out.trans ((ze u2 (.cells #[.int .i64 (a:Int),.int .i64 (k:Int)] 92)).mono HB2.out.size));clear hd hso;go_wp2_with fail;go_roundw
      case rel=>exact⟨p+1,hlt,by go_num,HB3.out,HD2⟩
      case measure=>simp[intOf];omega
    · have hd:=HD.out
      rw[if_neg he]at hd;have HYF:=hid hd;have he1:(er==0)=false:=by simp only[beq_eq_false_iff_ne,ne_eq];exact he
      clear hd he hso;go_wp2_with fail;obtain⟨u3,hu3⟩:∃ u3,u3=u2.alloc (.cells #[.int .i64 (a:Int),.int .i64 (k:Int)] 92):=⟨_,rfl⟩
      rw[←hu3];have hz3:u3.heap.size=u2.heap.size+1:=by rw[hu3];simp
      have hB3:Below W0.heap.size W0 u3:=by rw[hu3];exact HB2.out.trans ((ze u2 _).mono HB2.out.size)
      have hT3:u3.heap[u2.heap.size]? = some (.cells #[.int .i64 (a:Int),.int .i64 (k:Int)] 92 (0,0)):=by rw[hu3];exact (MapKept.heap_alloc _ _).1
      have hso:=HSQ.out u3 hB3;have hsz2:=HB2.out.size;have HSO3:=hid hso;have f0:=Lib.frozen_of_heap hso 0;have f1:=Lib.frozen_of_heap hso 1;obtain⟨s0,s1⟩:=zt hso;obtain⟨t0,t1⟩:=zt hT3;have HB3:=hid hB3;clear hu3 hso hT3 hB3;refine wp_region_held_drew (S:=xJ (w.heap.size+1) u3) (by kernel_rfl) (xJ.drew _ _) (fun hSw=>?_);refine tH 0 (.int .i64 (p:Int)) hSw ?_;(try simp only[nS]);refine tG 1 (.agg #[.int .i64 (a:Int),.int .i64 (k:Int)]) hSw (fun W hW=>?_) ?_
      · have t0:=hW.cell (by dsimp only;omega) t0
        have t1:=hW.cell (by dsimp only;omega) t1
        first|(go_simp;done)|rfl
      (try simp only[nS]);refine tH 2 (.int .i64 er) hSw ?_;(try simp only[nS]);refine tH 3 (.int .i64 (p:Int)) hSw ?_;(try simp only[nS]);refine tR 4 (fun K hK=>?_);clear hSw;go_simp;refine hK.out _ _ (fun j hj hne=>(Below.heap_setCell _ _ _ _ (by show j≠w.heap.size+1;exact hne)).trans (Below.heap_setCell _ _ _ _ (by show j≠w.heap.size+1;exact hne))) (fun hSw=>?_);clear hK K;(try simp only[nS]);refine tH 5 (.int .i64 er) hSw ?_;(try simp only[nS]);refine wpAnyH_done (by kernel_rfl) ?_ _;go_wp2_with fail;refine bodyPost_ret (v:=.tuple #[.int .i64 (p:Int),.agg #[.int .i64 (a:Int),.int .i64 (k:Int)],.int .i64 er]) (vz (t:=2) (p:=3) (u:=4) rfl _ _ (w.heap.size+1) _ _ _ _ rfl rfl rfl (y9 HSO3.out _ _)) rfl ?_;exact⟨by rw[HYF.out];rfl,below_drewN (((HBW.out _ HB3.out).setCell (by show w.heap.size≤w.heap.size+1;omega) _).setCell (by show w.heap.size≤w.heap.size+1;omega) _) 1⟩
  · rw[List.drop_eq_nil_of_le (by rw[←HN.out];omega)]at hd
    have HYF:=hid (show Y=(0,(0,0),0)from hd);have HSO3:=hid hso;have f0:=Lib.frozen_of_heap hso 0;have f1:=Lib.frozen_of_heap hso 1;obtain⟨s0,s1⟩:=zt hso;have HB3:=hid hB;clear hB hso hD hd;go_wp2_with fail;refine bodyPost_ret (v:=.tuple #[.int .i64 0,.agg #[.int .i64 0,.int .i64 0],.int .i64 0]) (vz (t:=2) (p:=3) (u:=4) rfl _ _ (w.heap.size+1) _ _ _ _ rfl rfl rfl (y9 HSO3.out _ _)) rfl ?_;exact⟨by rw[HYF.out];rfl,((HBW.out _ HB3.out).setCell (by show w.heap.size≤w.heap.size+1;omega) _).setCell (by show w.heap.size≤w.heap.size+1;omega) _⟩
