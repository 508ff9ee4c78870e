/- What package effect finds of a statement and of a function: the four functions that call one another, by what is met. -/
import Derived.Test.YtdhieihcmnpneaaGreatDoorRows
import Derived.Test.YtdhieihcmnpneaaGreatDoorTypWt
import Derived.Test.YtdhieihcmnpneaaGreatDoorEffFun
import Derived.Test.YtdhieihcmnpneaaGreatDoorTypExpr
import Derived.Test.YtdhieihcmnpneaaGreatDoorGNew
namespace Go.Proofs.YtdhieihcmnpneaaGreatDoor
open Lib (hid)
set_option maxHeartbeats 4000000
open Go.RowKit
set_option maxRecDepth 100000
theorem effXs_snoc (sh:List ByteArray) (E:ByteArray→Ef) (x:X):∀ (l:List X) (a:Ef),effXs sh E a (l ++ [x])=(effXs sh E a l).or (effX sh E x)
  | [],_=>rfl
  | y :: r,a=>by rw [List.cons_append,effXs,effXs,effXs_snoc sh E x r]
theorem effSs_snoc (sh:List ByteArray) (E:ByteArray→Ef) (q:St × Bool):∀ (l:List (St × Bool)) (a:Ef),effSs sh E a (l ++ [q])=(effSs sh E a l).or ((effS sh E q.1).lessIf q.2)
  | [],_=>rfl
  | y :: r,a=>by rw [List.cons_append,effSs,effSs,effSs_snoc sh E q r]
theorem or_run (a b:Ef):bits BinOp.or .u8 a.val b.val=(a.or b).val:=by
  obtain⟨a1,a2,a3⟩:=a
  obtain⟨b1,b2,b3⟩:=b
  cases a1 <;> cases a2 <;> cases a3 <;> cases b1 <;> cases b2 <;> cases b3 <;> rfl
theorem put_cellE {w:World} {b o:Nat} {v:Value} {T:TypeId} {old:Array Value} (h:w.heap[b]? = some (.cells old T (0,0))):Put b (.cells (old.setIfInBounds o v) T (0,0)) w (w.setCell ⟨b,o,none⟩ v):=
  ⟨rfl,rfl,rfl,by simp [World.setCell],by simp [World.setCell,Array.getElem?_modify,h],fun k hk=>Below.heap_setCell _ _ _ _ (by simpa using hk)⟩
theorem Wr.drop {m c:Nat} {w w':World} (h:Wr (fun g=>g=m ∨ g=c) w w') (hc:w.heap.size≤c):Wr (fun g=>g=m) w w':=
  ⟨h.os,h.tape,h.output,h.size,fun g h1 h2=>h.block g h1 (fun h3=>by
    rcases h3 with h3|h3
    · exact h2 h3
    · omega)⟩
theorem less_run (a:Ef):bits BinOp.andNot .u8 a.val 1=a.less.val:=by
  obtain⟨a1,a2,a3⟩:=a
  cases a1 <;> cases a2 <;> cases a3 <;> rfl
structure XI (e:En) (B d ms mb mm c bd:Nat) (a0:Ef) (acc:List X) (O:Nat→Prop) (w:World):Prop where
  own:O=fun g=>g=mm ∨ g=c
  ds:Ds e B d ms mb mm w
  cell:w.heap[c]? = some (.cells #[.int .u8 (effXs (fnames e.shared) (effF e) a0 acc).val] 54 (0,0))
  ptr:w.heap[bd]? = some (.cells #[.pointer (some ⟨d,0,none⟩)] 52 (0,0))
  bodies:BodiesIn w B e
  ne:c ≠ d∧c ≠ ms∧c ≠ mb∧c ≠ mm∧c ≠ bd∧bd ≠ mm∧B≤c
def stmtV (e:En) (B d ms mb mm c bd:Nat) (a0:Ef):VisX:=⟨67,#[.pointer (some ⟨c,0,none⟩),.pointer (some ⟨bd,0,none⟩)],B,XI e B d ms mb mm c bd a0,fun l=>∀ x ∈ l,x.hd.k=7→FnOk e x.hd.name⟩
theorem stmt1_step (e:En) (B d ms mb mm c bd:Nat) (a0:Ef) (acc:List X) (O:Nat→Prop) (x:X) (w:World) (h:XI e B d ms mb mm c bd a0 acc O w) (hI:InW w B x) (hm:x.hd.k=7→FnOk e x.hd.name) (hBw:B≤w.heap.size) :
    Calls Tryz.prog 67 #[x.val,.pointer (some ⟨c,0,none⟩),.pointer (some ⟨bd,0,none⟩)] w (EE (stmtV e B d ms mb mm c bd a0) (acc ++ [x]) O w):=by
  obtain⟨xo,xn,xc,ex⟩:=slice_of hI
  have hX:=fun (W:World) (hD:Ds e B d ms mb mm W) (hBW:B≤W.heap.size) (hIW:InW W B x) (hF:BodiesIn W B e)=>eff_expr e B d ms mb mm x W hD hBW hIW hF hm
  rw [val_of ex] at hX ⊢
  obtain⟨W1,hW1⟩:∃ W1,W1=w.alloc (.cells #[.int .u8 x.hd.k,.int .i64 x.hd.n,.string x.hd.name,.int .u8 x.hd.tk,.string x.hd.tn,.int .i64 x.hd.tz,.slice xo xn xc] 62):=⟨_,rfl⟩
  have hb1:Below w.heap.size w W1:=by rw [hW1];exact below_box w _
  have hz1:W1.heap.size=w.heap.size+1:=by rw [hW1];simp
  have hO1:W1.heap[w.heap.size]? = some (.cells #[.int .u8 x.hd.k,.int .i64 x.hd.n,.string x.hd.name,.int .u8 x.hd.tk,.string x.hd.tn,.int .i64 x.hd.tz,.slice xo xn xc] 62 (0,0)):=by rw [hW1];exact (MapKept.heap_alloc _ _).1
  have hcl:c < w.heap.size:=(Array.getElem?_eq_some_iff.1 h.cell).1
  have hbl:bd < w.heap.size:=(Array.getElem?_eq_some_iff.1 h.ptr).1
  have hml:=h.ds.lt.2.2.2
  have hC1:=(hb1.block c hcl).trans h.cell
  have hP1:=(hb1.block bd hbl).trans h.ptr
  obtain⟨b,hb⟩:∃ b,b=effX (fnames e.shared) (effF e) x:=⟨_,rfl⟩
  have hsn:=effXs_snoc (fnames e.shared) (effF e) x acc a0
  rw [← hb] at hsn
  obtain⟨a,ha⟩:∃ a,a=effXs (fnames e.shared) (effF e) a0 acc:=⟨_,rfl⟩
  rw [← ha] at hsn hC1
  have hx1:=hX W1.drew ((h.ds.keeps hb1).keeps (Below.refl _ _).drew) (show B≤W1.heap.size by omega) (InW.keeps ((hb1.mono hBw).drew) _ hI) (h.bodies.keeps ((hb1.mono hBw).drew))
  rw [← hb] at hx1
  have c0:=cell1 hC1
  have b0:=cell1 hP1
  obtain⟨k0,k1,k2,k3,k4,k5,k6⟩:=own7 hO1
  have HX:=hid hx1
  have HC1:=hid hC1
  have HP1:=hid hP1
  have HSN:=hid hsn
  have HNE:=hid h.ne
  have HOW:=hid h.own
  have HBD:=hid h.bodies
  have HW1:=hid hW1
  have HB1:=hid hb1
  have HLC:=hid (show c < W1.heap.size by omega)
  have HLB:=hid (show bd < W1.heap.size by omega)
  obtain⟨n1,n2,n3,n4,n5,n6,n7⟩:=h.ne
  clear h hI hm hX hb1 hO1 hC1 hP1 hb hsn ha hx1 hW1
  go_enter Tryz.func67,Tryz.ntmps67
  go_wp2_with fail
  rw [← HW1.out]
  refine wp_region_late (S:=SameBut mm W1) (fun j=>decide (5≤j)) (by kernel_rfl) (SameBut.drew _ _) (fun hSw=>?_)
  refine wpAnyL_take (i:=0) (v:=.int .u8 a.val) rfl (by kernel_rfl) (by kernel_rfl) (by kernel_rfl) rfl (by kernel_rfl) (fun _ _ _ h=>h) (Or.inl ⟨by rfl,fun W hW=>?_⟩) hSw ?_
  · have c0:=hW.cell (by dsimp only;omega) c0
    first|(go_simp;done)|rfl
  try simp only [Act.put,q1]
  refine wpAnyL_take (i:=1) (v:=.pointer (some ⟨d,0,none⟩)) rfl (by kernel_rfl) (by kernel_rfl) (by kernel_rfl) rfl (by kernel_rfl) (fun _ _ _ h=>h) (Or.inl ⟨by rfl,fun W hW=>?_⟩) hSw ?_
  · have b0:=hW.cell (by dsimp only;omega) b0
    first|(go_simp;done)|rfl
  try simp only [Act.put]
  refine wpAnyL_take (i:=2) (v:=.agg #[.int .u8 x.hd.k,.int .i64 x.hd.n,.string x.hd.name,.int .u8 x.hd.tk,.string x.hd.tn,.int .i64 x.hd.tz,.slice xo xn xc]) rfl (by kernel_rfl) (by kernel_rfl) (by kernel_rfl) rfl (by kernel_rfl) (fun _ _ _ h=>h) (Or.inl ⟨by rfl,fun W hW=>?_⟩) hSw ?_
  · have k0:=hW.cell (by dsimp only;omega) k0
    have k1:=hW.cell (by dsimp only;omega) k1
    have k2:=hW.cell (by dsimp only;omega) k2
    have k3:=hW.cell (by dsimp only;omega) k3
    have k4:=hW.cell (by dsimp only;omega) k4
    have k5:=hW.cell (by dsimp only;omega) k5
    have k6:=hW.cell (by dsimp only;omega) k6
    first|(go_simp;done)|rfl
  try simp only [Act.put]
  refine wpAnyL_ready (rs:=[3]) (by kernel_rfl) (by simp) (AllReadyL.cons rfl rfl (fun J hK=>?_) AllReadyL.nil)
  rw [if_pos (by rfl)]
  clear hSw
  go_simp
  refine HX.out.mono ?_;rintro z w2 ⟨rfl,hD2,hw2⟩
  have hC2:=(hw2.block c (show c < W1.drew.heap.size from HLC.out) (fun h=>by have:=HNE.out;omega)).trans HC1.out
  have hP2:=(hw2.block bd (show bd < W1.drew.heap.size from HLB.out) (fun h=>by have:=HNE.out;omega)).trans HP1.out
  have HC2:=hid hC2
  have HP2:=hid hP2
  have HD2:=hid hD2
  have HW2:=hid hw2
  have c2:=cell1 hC2
  have f2:=Lib.frozen_of_heap (w:=w2) hC2 0
  clear hD2 hw2 hC2 hP2
  refine hK.out _ _ ((fun k hk hz=>HW2.out.block k hk hz)) (fun hSw=>?_)
  clear hK J
  try simp only [Act.put,q1,q2,q3]
  refine wpAnyL_take (i:=4) (v:=.int .u8 (a.or b).val) rfl (by kernel_rfl) (by kernel_rfl) (by kernel_rfl) rfl (by kernel_rfl) (fun _ _ _ h=>h) (Or.inl ⟨by rfl,fun W hW=>?_⟩) hSw ?_
  · (go_simp;exact or_run a b)
  try simp only [Act.put,q1]
  refine wpAnyL_only (rs:=[5]) (by kernel_rfl) (by simp) (by rfl) ?_
  refine wpAny_one (i:=5) (by kernel_rfl) rfl (fun J hK=>?_)
  rw [if_pos (by rfl)]
  go_simp
  refine hK.out _ _ ?_
  clear hK J
  try simp only [Act.put,q1,q2,q3]
  refine wpAny_done (by kernel_rfl) ?_ _
  go_wp2_with fail
  go_end0
  have hp:=put_cellE (o:=0) (v:=.int .u8 (a.or b).val) HC2.out
  have hd1:=(Wr.of_below (S:=fun g=>g=mm ∨ g=c) HB1.out).trans ((Wr.of_below (Below.refl W1.heap.size W1).drew).trans (HW2.out.mono (fun g hg=>.inl hg)))
  have hall:=hd1.trans (Wr.of_put hp (.inr rfl))
  have hn:=HNE.out
  refine⟨rfl,O,⟨HOW.out,HD2.out.after (S:=fun g=>g=c) (Wr.of_put hp rfl) (fun g hg=>by subst hg;omega) (HD2.out.met.of (hp.rest mm (by omega))), ?_,(hp.rest bd (by omega)).trans HP2.out,HBD.out.keeps (hall.below (fun g hg=>?_) hBw),HNE.out⟩, ?_,fun g hg=>.inl hg⟩
  · rw [hp.at_b,HSN.out];rfl
  · rcases hg with rfl|rfl
    · exact HD2.out.far
    · omega
  · rw [HOW.out];exact hall
theorem stmtV_ok (e:En) (B d ms mb mm c bd:Nat) (a0:Ef):(stmtV e B d ms mb mm c bd a0).Ok where
  pre:=fun a b h x hx=>h x (List.mem_append_left _ hx)
  enters:=fun _ _=>rfl
  far:=fun acc O w h g hg=>by
    rw [h.own] at hg
    rcases hg with rfl|rfl
    · exact⟨h.ds.far,h.ds.lt.2.2.2⟩
    · exact⟨h.ne.2.2.2.2.2.2,(Array.getElem?_eq_some_iff.1 h.cell).1⟩
  keep:=fun acc O w w' h hb=>by
    have hc:c < w.heap.size:=(Array.getElem?_eq_some_iff.1 h.cell).1
    have hbd:bd < w.heap.size:=(Array.getElem?_eq_some_iff.1 h.ptr).1
    exact⟨h.own,h.ds.keeps hb,(hb.block c hc).trans h.cell,(hb.block bd hbd).trans h.ptr,h.bodies.keeps (hb.mono (by have:=h.ds.far;have:=h.ds.lt;omega)),h.ne⟩
  step:=fun acc O x w h hI hm hBw=>stmt1_step e B d ms mb mm c bd a0 acc O x w h hI (hm x (by simp)) hBw
attribute [local go_sem ↓] loadS_eq
theorem eff_stmt (e:En) (B d ms mb mm:Nat) (s:St) (w:World) (hD:Ds e B d ms mb mm w) (hBw:B≤w.heap.size) (hI:SIn w B s) (hF:BodiesIn w B e) (hm:∀ x ∈ s.exprs,x.hd.k=7→FnOk e x.hd.name) :
    Calls Tryz.prog 34 #[.pointer (some ⟨d,0,none⟩),.agg s.arr] w (FE e B d ms mb mm (effOne e s) w):=by
  have hmf:∀ (fn:Go.Fn) (first cap:Array Value) (w:World),(Instr.makeFunc fn first cap).run Tryz.prog w = .ok (.func fn first cap) w:=fun _ _ _ _=>rfl
  obtain⟨v0,hv0⟩:∃ v0:Ef,v0=effK s.h.k:=⟨_,rfl⟩
  obtain⟨W3,hW3⟩:∃ W3,W3=((w.alloc (.cells #[.pointer (some ⟨d,0,none⟩)] 52)).alloc (.cells s.arr 64)).alloc (.cells #[.int .u8 v0.val] 54):=⟨_,rfl⟩
  have hb3:Below w.heap.size w W3:=by rw [hW3];exact (((below_box w _).alloc (by simp) _).alloc (by simp <;> omega) _)
  have hz3:W3.heap.size=w.heap.size+3:=by rw [hW3];simp
  have hO0:W3.heap[w.heap.size]? = some (.cells #[.pointer (some ⟨d,0,none⟩)] 52 (0,0)):=by
    rw [hW3,Below.heap_alloc _ _ _ (by simp <;> omega),Below.heap_alloc _ _ _ (by simp)];exact (MapKept.heap_alloc _ _).1
  have hO1:W3.heap[w.heap.size+1]? = some (.cells s.arr 64 (0,0)):=by
    rw [hW3,Below.heap_alloc _ _ _ (by simp)];have:=(MapKept.heap_alloc (w.alloc (.cells #[.pointer (some ⟨d,0,none⟩)] 52)) (.cells s.arr 64)).1;simpa using this
  have hO2:W3.heap[w.heap.size+1+1]? = some (.cells #[.int .u8 v0.val] 54 (0,0)):=by
    rw [hW3];have:=(MapKept.heap_alloc ((w.alloc (.cells #[.pointer (some ⟨d,0,none⟩)] 52)).alloc (.cells s.arr 64)) (.cells #[.int .u8 v0.val] 54)).1;simpa using this
  have hl:=hD.lt
  have hInv:XI e B d ms mb mm (w.heap.size+1+1) w.heap.size v0 [] (fun g=>g=mm ∨ g=w.heap.size+1+1) W3:=⟨rfl,hD.keeps hb3,hO2,hO0,hF.keeps (hb3.mono hBw),by omega⟩
  have hall:=eachExpr_any s (stmtV e B d ms mb mm (w.heap.size+1+1) w.heap.size v0) (stmtV_ok _ _ _ _ _ _ _ _ _) [] _ W3 (SIn.keeps (hb3.mono hBw) _ hI) (show ∀ x ∈ [] ++ s.exprs,_ by rw [List.nil_append];exact hm) (show B≤W3.heap.size by omega) hInv
  have HALL:=hid hall
  have HW3:=hid hW3
  have HB3:=hid hb3
  have HEF:=hid (show effOne e s=effXs (fnames e.shared) (effF e) v0 s.exprs by rw [hv0];rfl)
  have hone:=hI.one
  have hO1v:∀ v:Value,(((w.alloc (.cells #[.pointer (some ⟨d,0,none⟩)] 52)).alloc (.cells s.arr 64)).alloc (.cells #[v] 54)).heap[w.heap.size+1]? = some (.cells s.arr 64 (0,0)):=fun v=>by
    rw [Below.heap_alloc _ _ _ (by simp)];have:=(MapKept.heap_alloc (w.alloc (.cells #[.pointer (some ⟨d,0,none⟩)] 52)) (.cells s.arr 64)).1;simpa using this
  have hL1:=fun v=>loadS_row (arr_size s) (hO1v v)
  have k0:=fun v=>(st_h (hO1v v)).1
  have HBW:=hid hBw
  have hne:d < w.heap.size:=hl.1
  have u6:bits BinOp.or .u8 2 4=6:=by kernel_rfl
  have u4:bits BinOp.or .u8 0 4=4:=by kernel_rfl
  clear hb3 hO0 hO1 hO2 hInv hall hI hF hm hD hO1v hl
  by_cases h5:s.h.k=5
  · have hv:v0.val=6:=by rw [hv0,h5];rfl
    rw [hv] at HW3
    rw [h5] at k0
    have HV:=hid hv
    clear hv0 hW3 hv h5
    go_enter Tryz.func34,Tryz.ntmps34
    go_wp2_with fail
    rw [← HW3.out]
    refine HALL.out.mono ?_;rintro z w4 ⟨rfl,O2,hX,hw4⟩
    have hX':XI e B d ms mb mm (w.heap.size+1+1) w.heap.size v0 ([] ++ s.exprs) O2 w4:=hX
    rw [List.nil_append] at hX'
    have hcl:=hX'.cell
    rw [← HEF.out] at hcl
    have c4:=cell1 hcl
    have f4:=Lib.frozen_of_heap (w:=w4) hcl 0
    have HX:=hid hX'
    have HCL:=hid hcl
    have HW4:=hid hw4
    clear hX hX' hcl hw4
    go_wp2_with fail
    have hp:=put_cellE (o:=0) (v:=.int .u8 (effOne e s).val) HCL.out
    have c5:=cell1 hp.at_b
    refine bodyPost_ret (v:=.int .u8 (effOne e s).val) (by simp [results,Tryz.results34,go_sem,c5]) rfl ?_
    have hn:=HX.out.ne
    exact⟨rfl,HX.out.ds.after (S:=fun g=>g=w.heap.size+1+1) (Wr.of_put hp rfl) (fun g hg=>by subst hg;omega) (HX.out.ds.met.of (hp.rest mm (by omega))),
      ((Wr.of_below (S:=fun g=>g=mm ∨ g=w.heap.size+1+1) HB3.out).trans (HW4.out.wr.trans (Wr.of_put hp (.inr rfl)))).drop (by omega)⟩
  by_cases h6:s.h.k=6
  · have hv:v0.val=4:=by rw [hv0,h6];rfl
    rw [hv] at HW3
    rw [h6] at k0
    have HV:=hid hv
    clear hv0 hW3 hv h5 h6
    go_enter Tryz.func34,Tryz.ntmps34
    go_wp2_with fail
    rw [← HW3.out]
    refine HALL.out.mono ?_;rintro z w4 ⟨rfl,O2,hX,hw4⟩
    have hX':XI e B d ms mb mm (w.heap.size+1+1) w.heap.size v0 ([] ++ s.exprs) O2 w4:=hX
    rw [List.nil_append] at hX'
    have hcl:=hX'.cell
    rw [← HEF.out] at hcl
    have c4:=cell1 hcl
    have f4:=Lib.frozen_of_heap (w:=w4) hcl 0
    have HX:=hid hX'
    have HCL:=hid hcl
    have HW4:=hid hw4
    clear hX hX' hcl hw4
    go_wp2_with fail
    have hp:=put_cellE (o:=0) (v:=.int .u8 (effOne e s).val) HCL.out
    have c5:=cell1 hp.at_b
    refine bodyPost_ret (v:=.int .u8 (effOne e s).val) (by simp [results,Tryz.results34,go_sem,c5]) rfl ?_
    have hn:=HX.out.ne
    exact⟨rfl,HX.out.ds.after (S:=fun g=>g=w.heap.size+1+1) (Wr.of_put hp rfl) (fun g hg=>by subst hg;omega) (HX.out.ds.met.of (hp.rest mm (by omega))),
      ((Wr.of_below (S:=fun g=>g=mm ∨ g=w.heap.size+1+1) HB3.out).trans (HW4.out.wr.trans (Wr.of_put hp (.inr rfl)))).drop (by omega)⟩
  · have hv:v0.val=0:=by rw [hv0];unfold effK;rw [if_neg h5,if_neg h6];rfl
    rw [hv] at HW3
    have n5:(s.h.k == 5)=false:=by simpa using h5
    have n6:(s.h.k == 6)=false:=by simpa using h6
    have HV:=hid hv
    clear hv0 hW3 hv h5 h6
    go_enter Tryz.func34,Tryz.ntmps34
    go_wp2_with fail
    rw [← HW3.out]
    refine HALL.out.mono ?_;rintro z w4 ⟨rfl,O2,hX,hw4⟩
    have hX':XI e B d ms mb mm (w.heap.size+1+1) w.heap.size v0 ([] ++ s.exprs) O2 w4:=hX
    rw [List.nil_append] at hX'
    have hcl:=hX'.cell
    rw [← HEF.out] at hcl
    have c4:=cell1 hcl
    have f4:=Lib.frozen_of_heap (w:=w4) hcl 0
    have HX:=hid hX'
    have HCL:=hid hcl
    have HW4:=hid hw4
    clear hX hX' hcl hw4
    go_wp2_with fail
    have hp:=put_cellE (o:=0) (v:=.int .u8 (effOne e s).val) HCL.out
    have c5:=cell1 hp.at_b
    refine bodyPost_ret (v:=.int .u8 (effOne e s).val) (by simp [results,Tryz.results34,go_sem,c5]) rfl ?_
    have hn:=HX.out.ne
    exact⟨rfl,HX.out.ds.after (S:=fun g=>g=w.heap.size+1+1) (Wr.of_put hp rfl) (fun g hg=>by subst hg;omega) (HX.out.ds.met.of (hp.rest mm (by omega))),
      ((Wr.of_below (S:=fun g=>g=mm ∨ g=w.heap.size+1+1) HB3.out).trans (HW4.out.wr.trans (Wr.of_put hp (.inr rfl)))).drop (by omega)⟩
structure SI (e:En) (B d ms mb mm c bd:Nat) (acc:List (St × Bool)) (O:Nat→Prop) (w:World):Prop where
  own:O=fun g=>g=mm ∨ g=c
  ds:Ds e B d ms mb mm w
  cell:w.heap[c]? = some (.cells #[.int .u8 (effSs (fnames e.shared) (effF e) noE acc).val] 54 (0,0))
  ptr:w.heap[bd]? = some (.cells #[.pointer (some ⟨d,0,none⟩)] 52 (0,0))
  bodies:BodiesIn w B e
  ne:c ≠ d∧c ≠ ms∧c ≠ mb∧c ≠ mm∧c ≠ bd∧bd ≠ mm∧B≤c
def MayS (e:En) (s:St):Prop:=∀ x ∈ s.exprs,x.hd.k=7→FnOk e x.hd.name
def funcV (e:En) (B d ms mb mm c bd:Nat):VisS:=⟨33,#[.pointer (some ⟨bd,0,none⟩),.pointer (some ⟨c,0,none⟩)],B,SI e B d ms mb mm c bd,fun l=>∀ q ∈ l,MayS e q.1⟩
theorem func1_step (e:En) (B d ms mb mm c bd:Nat) (acc:List (St × Bool)) (O:Nat→Prop) (s:St) (i:Bool) (w:World) (h:SI e B d ms mb mm c bd acc O w) (hI:SIn w B s) (hm:MayS e s) (hBw:B≤w.heap.size) :
    Calls Tryz.prog 33 #[.agg s.arr,.bool i,.pointer (some ⟨bd,0,none⟩),.pointer (some ⟨c,0,none⟩)] w (ES (funcV e B d ms mb mm c bd) (acc ++ [(s,i)]) O w):=by
  obtain⟨W1,hW1⟩:∃ W1,W1=w.alloc (.cells s.arr 64):=⟨_,rfl⟩
  have hb1:Below w.heap.size w W1:=by rw [hW1];exact below_box w _
  have hz1:W1.heap.size=w.heap.size+1:=by rw [hW1];simp
  have hO1:W1.heap[w.heap.size]? = some (.cells s.arr 64 (0,0)):=by rw [hW1];exact (MapKept.heap_alloc _ _).1
  have hcl:c < w.heap.size:=(Array.getElem?_eq_some_iff.1 h.cell).1
  have hbl:bd < w.heap.size:=(Array.getElem?_eq_some_iff.1 h.ptr).1
  have hC1:=(hb1.block c hcl).trans h.cell
  have hP1:=(hb1.block bd hbl).trans h.ptr
  obtain⟨b,hb⟩:∃ b,b=effOne e s:=⟨_,rfl⟩
  have hsn:=effSs_snoc (fnames e.shared) (effF e) (s,i) acc noE
  have hx1:=eff_stmt e B d ms mb mm s W1 (h.ds.keeps hb1) (by omega) (SIn.keeps (hb1.mono hBw) _ hI) (h.bodies.keeps (hb1.mono hBw)) hm
  have hb2:effS (fnames e.shared) (effF e) s=b:=hb.symm
  rw [← hb] at hx1
  simp only [hb2] at hsn
  obtain⟨a,ha⟩:∃ a,a=effSs (fnames e.shared) (effF e) noE acc:=⟨_,rfl⟩
  rw [← ha] at hsn hC1
  have b0:=cell1 hP1
  have hL1:=loadS_row (arr_size s) hO1
  have hone:=hI.one
  rw [hW1] at b0 hL1
  have HX:=hid hx1
  have HC1:=hid hC1
  have HP1:=hid hP1
  have HSN:=hid hsn
  have HNE:=hid h.ne
  have HOW:=hid h.own
  have HBD:=hid h.bodies
  have HW1:=hid hW1
  have HB1:=hid hb1
  have HLC:=hid (show c < W1.heap.size by omega)
  have HLB:=hid (show bd < W1.heap.size by omega)
  obtain⟨n1,n2,n3,n4,n5,n6,n7⟩:=h.ne
  clear h hI hm hb1 hO1 hC1 hP1 hb hsn ha hx1 hW1 hb2
  have hor:=or_run a b
  have hor2:=or_run a b.less
  have hls:=less_run b
  cases i
  all_goals
    go_enter Tryz.func33,Tryz.ntmps33
    go_wp2_with fail
    rw [← HW1.out]
    refine HX.out.mono ?_;rintro z w2 ⟨rfl,hD2,hw2⟩
    have hC2:=(hw2.block c HLC.out (fun h=>by omega)).trans HC1.out
    have hP2:=(hw2.block bd HLB.out (fun h=>by omega)).trans HP1.out
    have HC2:=hid hC2
    have HP2:=hid hP2
    have HD2:=hid hD2
    have HW2:=hid hw2
    have c2:=cell1 hC2
    have f2:=Lib.frozen_of_heap (w:=w2) hC2 0
    clear hD2 hw2 hC2 hP2 b0 hL1
    go_wp2_with fail
    go_end0
    first
      | have hp:=put_cellE (o:=0) (v:=.int .u8 (a.or b).val) HC2.out
        have hd1:=(Wr.of_below (S:=fun g=>g=mm ∨ g=c) HB1.out).trans (HW2.out.mono (fun g hg=>.inl hg))
        have hall:=hd1.trans (Wr.of_put hp (.inr rfl))
        refine⟨rfl,O,⟨HOW.out,HD2.out.after (S:=fun g=>g=c) (Wr.of_put hp rfl) (fun g hg=>by subst hg;omega) (HD2.out.met.of (hp.rest mm (by omega))),by rw [hp.at_b,HSN.out];rfl,(hp.rest bd (by omega)).trans HP2.out,HBD.out.keeps (hall.below (fun g hg=>by rcases hg with rfl|rfl;exact HD2.out.far;omega) hBw),HNE.out⟩,by rw [HOW.out];exact hall,fun g hg=>.inl hg⟩
      | have hp:=put_cellE (o:=0) (v:=.int .u8 (a.or b.less).val) HC2.out
        have hd1:=(Wr.of_below (S:=fun g=>g=mm ∨ g=c) HB1.out).trans (HW2.out.mono (fun g hg=>.inl hg))
        have hall:=hd1.trans (Wr.of_put hp (.inr rfl))
        refine⟨rfl,O,⟨HOW.out,HD2.out.after (S:=fun g=>g=c) (Wr.of_put hp rfl) (fun g hg=>by subst hg;omega) (HD2.out.met.of (hp.rest mm (by omega))),by rw [hp.at_b,HSN.out];rfl,(hp.rest bd (by omega)).trans HP2.out,HBD.out.keeps (hall.below (fun g hg=>by rcases hg with rfl|rfl;exact HD2.out.far;omega) hBw),HNE.out⟩,by rw [HOW.out];exact hall,fun g hg=>.inl hg⟩
theorem funcV_ok (e:En) (B d ms mb mm c bd:Nat):(funcV e B d ms mb mm c bd).Ok where
  pre:=fun a b h x hx=>h x (List.mem_append_left _ hx)
  enters:=fun _ _ _=>rfl
  far:=fun acc O w h g hg=>by
    rw [h.own] at hg
    rcases hg with rfl|rfl
    · exact⟨h.ds.far,h.ds.lt.2.2.2⟩
    · exact⟨h.ne.2.2.2.2.2.2,(Array.getElem?_eq_some_iff.1 h.cell).1⟩
  keep:=fun acc O w w' h hb=>by
    have hc:c < w.heap.size:=(Array.getElem?_eq_some_iff.1 h.cell).1
    have hbd:bd < w.heap.size:=(Array.getElem?_eq_some_iff.1 h.ptr).1
    exact⟨h.own,h.ds.keeps hb,(hb.block c hc).trans h.cell,(hb.block bd hbd).trans h.ptr,h.bodies.keeps (hb.mono (by have:=h.ds.far;have:=h.ds.lt;omega)),h.ne⟩
  step:=fun acc O s i w h hI hm hBw=>func1_step e B d ms mb mm c bd acc O s i w h hI (hm (s,i) (by simp)) hBw
theorem body_lies {e:En} {w:World} {B:Nat} (h:BodiesIn w B e) (s:ByteArray):LiesG St.cells 21 w B (bvN e.funcs s) (bodyN e.funcs s)∧∀ a ∈ bodyN e.funcs s,SIn w B a:=by
  unfold bvN bodyN
  cases hf:fnN e.funcs s with
  | none=>exact⟨⟨none,0,rfl,by simp,.inl rfl⟩,fun a ha=>by cases ha⟩
  | some f=>exact h f (List.mem_of_find?_eq_some hf)
theorem eff_fn (e:En) (s:ByteArray) (hm:∀ q ∈ St.flats false (bodyN e.funcs s),MayS e q.1) (heq:effF e s=effSs (fnames e.shared) (effF e) noE (St.flats false (bodyN e.funcs s))):FnOk e s:=by
  intro B d ms mb mm w hD hBw hF
  have hmf:∀ (fn:Go.Fn) (first cap:Array Value) (w:World),(Instr.makeFunc fn first cap).run Tryz.prog w = .ok (.func fn first cap) w:=fun _ _ _ _=>rfl
  obtain⟨W1,hW1⟩:∃ W1,W1=w.alloc (.cells #[.pointer (some ⟨d,0,none⟩)] 52):=⟨_,rfl⟩
  have hb1:Below w.heap.size w W1:=by rw [hW1];exact below_box w _
  have hz1:W1.heap.size=w.heap.size+1:=by rw [hW1];simp
  have hl:=hD.lt
  have hD1:=hD.keeps hb1
  obtain⟨d0,d1,d2⟩:=own3E hD1.own
  obtain⟨r,hr⟩:=look_mt hD1.met s
  have hr1:=hr W1 rfl
  have HD1:=hid hD1
  have HB1:=hid hb1
  have HW1:=hid hW1
  rw [hW1] at d0 d1 d2 hr1
  cases r with
  | true =>
    rw [if_pos rfl] at hr1
    clear hD hF hm heq hb1 hD1 hr hW1
    go_enter Tryz.func16,Tryz.ntmps16
    go_wp2_with fail
    go_ret
    rw [← HW1.out]
    exact⟨rfl,HD1.out,Wr.of_below HB1.out⟩
  | false =>
    rw [if_neg (by decide)] at hr1
    obtain⟨W2,hW2⟩:∃ W2,W2=W1.alloc (.cells #[.int .u8 0] 54):=⟨_,rfl⟩
    have hb2:Below W1.heap.size W1 W2:=by rw [hW2];exact below_box W1 _
    have hz2:W2.heap.size=w.heap.size+2:=by rw [hW2];simp;omega
    have hO2:W2.heap[w.heap.size+1]? = some (.cells #[.int .u8 0] 54 (0,0)):=by rw [← hz1,hW2];exact (MapKept.heap_alloc _ _).1
    have hO1:W2.heap[w.heap.size]? = some (.cells #[.pointer (some ⟨d,0,none⟩)] 52 (0,0)):=(hb2.block _ (by omega)).trans (by rw [hW1];exact (MapKept.heap_alloc _ _).1)
    have hbb:Below w.heap.size w W2:=hb1.trans (hb2.mono (by omega))
    have hF2:=BodiesIn.keeps (w:=w) hF (hbb.mono hBw)
    have hInv:SI e B d ms mb mm (w.heap.size+1) w.heap.size [] (fun g=>g=mm ∨ g=w.heap.size+1) W2:=⟨rfl,hD.keeps hbb,hO2,hO1,hF2,by omega⟩
    have hlk:=look_bd (hD.keeps hbb).bodies s W2 rfl
    have hbl:=body_lies hF2 s
    have hall:=eachStmt_any (funcV e B d ms mb mm (w.heap.size+1) w.heap.size) (funcV_ok _ _ _ _ _ _ _ _) [] _ (bodyN e.funcs s) (bvN e.funcs s) W2 hbl.1 hbl.2 (show ∀ q ∈ [] ++ St.flats false (bodyN e.funcs s),_ by rw [List.nil_append];exact hm) (show B≤W2.heap.size by omega) hInv
    obtain⟨e0,e1,e2⟩:=own3E (hD.keeps hbb).own
    have c1:=cell1 hO1
    have HALL:=hid hall
    have HBB:=hid hbb
    have HW2:=hid hW2
    have HEQ:=hid heq
    rw [hW2,hW1] at e0 e1 e2 c1 hlk
    clear hD hF hm heq hb1 hD1 hr hW1 hb2 hW2 hO1 hO2 hF2 hInv hbl hall hbb
    go_enter Tryz.func16,Tryz.ntmps16
    go_wp2_with fail
    rw [← HW1.out,← HW2.out]
    refine HALL.out.mono ?_;rintro z w4 ⟨rfl,O2,hX,hw4⟩
    have hX':SI e B d ms mb mm (w.heap.size+1) w.heap.size ([] ++ St.flats false (bodyN e.funcs s)) O2 w4:=hX
    rw [List.nil_append] at hX'
    have hcl:=hX'.cell
    rw [← HEQ.out] at hcl
    have HX:=hid hX'
    have HCL:=hid hcl
    have HW4:=hid hw4
    have hzc:w.heap.size+1 < w4.heap.size:=(Array.getElem?_eq_some_iff.1 hcl).1
    have c4:=cell1 hcl
    have p4:=cell1 hX'.ptr
    obtain⟨g0,g1,g2⟩:=own3E hX'.ds.own
    have hdl:d < w4.heap.size:=hX'.ds.lt.1
    clear hX hX' hcl hw4 d0 d1 d2 hr1 e0 e1 e2 c1 hlk
    go_wp2_with fail
    refine wp_region_late (S:=SameTo w4.heap.size w4) (fun j=>decide (6≤j)) (by kernel_rfl) (SameTo.drew _ _) (fun hSw=>?_)
    refine wpAnyL_take (i:=0) (v:=.pointer (some ⟨d,0,none⟩)) rfl (by kernel_rfl) (by kernel_rfl) (by kernel_rfl) rfl (by kernel_rfl) (fun _ _ _ h=>h) (Or.inl ⟨by rfl,fun W hW=>?_⟩) hSw ?_
    · have p4:=hW.cell (by dsimp only;omega) p4
      first|(go_simp;done)|rfl
    try simp only [Act.put,q1]
    refine wpAnyL_take (i:=1) (v:=.pointer (some ⟨d,0,none⟩)) rfl (by kernel_rfl) (by kernel_rfl) (by kernel_rfl) rfl (by kernel_rfl) (fun _ _ _ h=>h) (Or.inl ⟨by rfl,fun W hW=>?_⟩) hSw ?_
    · first|(go_simp;done)|rfl
    try simp only [Act.put]
    refine wpAnyL_take (i:=2) (v:=.pointer (some ⟨d,2,none⟩)) rfl (by kernel_rfl) (by kernel_rfl) (by kernel_rfl) rfl (by kernel_rfl) (fun _ _ _ h=>h) (Or.inl ⟨by rfl,fun W hW=>?_⟩) hSw ?_
    · first|(go_simp;done)|rfl
    try simp only [Act.put]
    refine wpAnyL_take (i:=3) (v:=.map (some mm)) rfl (by kernel_rfl) (by kernel_rfl) (by kernel_rfl) rfl (by kernel_rfl) (fun _ _ _ h=>h) (Or.inl ⟨by rfl,fun W hW=>?_⟩) hSw ?_
    · have g2:=hW.cell (by dsimp only;omega) g2
      first|(go_simp;done)|rfl
    try simp only [Act.put]
    refine wpAnyL_take (i:=4) (v:=.string s) rfl (by kernel_rfl) (by kernel_rfl) (by kernel_rfl) rfl (by kernel_rfl) (fun _ _ _ h=>h) (Or.inl ⟨by rfl,fun W hW=>?_⟩) hSw ?_
    · first|(go_simp;done)|rfl
    try simp only [Act.put]
    refine wpAnyL_take (i:=5) (v:=.int .u8 (effF e s).val) rfl (by kernel_rfl) (by kernel_rfl) (by kernel_rfl) rfl (by kernel_rfl) (fun _ _ _ h=>h) (Or.inl ⟨by rfl,fun W hW=>?_⟩) hSw ?_
    · have c4:=hW.cell (by dsimp only;omega) c4
      first|(go_simp;done)|rfl
    try simp only [Act.put]
    obtain⟨w5,hrun,hM5,hg5⟩:=put_mt (w:=w4.drew) (m:=mm) (e:=e) (HX.out.ds.met.of rfl) s
    refine wpAnyL_only (rs:=[6]) (by kernel_rfl) (by simp) (by rfl) ?_
    refine wpAny_one (i:=6) (by kernel_rfl) rfl (fun J hK=>?_)
    rw [if_pos (by rfl)]
    go_simp
    refine hK.out _ _ ?_
    clear hK J
    try simp only [Act.put,q1,q2,q3]
    refine wpAny_done (by kernel_rfl) ?_ _
    have hw5:=Wr.of_grown (S:=fun g=>g=mm) hg5 rfl
    have hn:=HX.out.ne
    have hC5:=(hw5.block (w.heap.size+1) hzc (fun h=>by omega)).trans HCL.out
    have c5:=cell1 hC5
    have HD5:=hid (HX.out.ds.after (S:=fun g=>g=mm) ((Wr.of_below (S:=fun g=>g=mm) (Below.refl w4.heap.size w4).drew).trans hw5) (fun g hg=>by subst hg;exact⟨HX.out.ds.nd,HX.out.ds.ns,HX.out.ds.nb⟩) hM5)
    have HW5:=hid hw5
    clear hw5 hC5 hg5 hM5 hrun c4 p4 g0 g1 g2
    go_wp2_with fail
    go_ret
    exact⟨rfl,HD5.out,((Wr.of_below (S:=fun g=>g=mm ∨ g=w.heap.size+1) HBB.out).trans (HW4.out.wr.trans ((Wr.of_below (Below.refl w4.heap.size w4).drew).trans (HW5.out.mono (fun g hg=>.inl hg))))).drop (by omega)⟩
theorem fn_all (e:En) (hO:Own e.funcs) (hN:NoRing e.funcs):∀ (r:Nat) (s:ByteArray),s ∈ nnames e.funcs→rank e.funcs s≤r→FnOk e s:=by
  intro r
  induction r using Nat.strongRecOn with
  | _ r ih =>
    intro s hs hr
    refine eff_fn e s (fun q hq x hx hk=>?_) (effF_eq e hO hN s hs)
    have h1:x.hd.name ∈ callsX q.1.exprs:=by
      unfold callsX
      exact List.mem_map.2 ⟨x,List.mem_filter.2 ⟨hx,by simpa using hk⟩,rfl⟩
    have h2:=calls_in hq h1
    have h3:=rank_lt e.funcs hO hN hs h2
    exact ih (rank e.funcs x.hd.name) (by omega) x.hd.name (hO s hs _ h2) (Nat.le_refl _)
end Go.Proofs.YtdhieihcmnpneaaGreatDoor
