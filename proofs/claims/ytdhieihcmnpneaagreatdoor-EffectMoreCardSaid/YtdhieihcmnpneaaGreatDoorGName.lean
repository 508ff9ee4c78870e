/- What the types layer finds of a name, a field, an element. -/
import Derived.Test.YtdhieihcmnpneaaGreatDoorRows
import Derived.Test.YtdhieihcmnpneaaGreatDoorTypLeaf
import Derived.Test.YtdhieihcmnpneaaGreatDoorTypWt
namespace Go.Proofs.YtdhieihcmnpneaaGreatDoor
open Lib (hid)
set_option maxRecDepth 100000
set_option maxHeartbeats 1000000
open Go.RowKit
attribute [local go_sem ↓] Go.wp_at_zero Go.wp_at_succ
theorem st_field {w:World} {B:Nat} {v:Value} {l:List Fd} (h:LiesG Fd.cells 4 w B v l) {g off n c:Nat} (hs:v = .slice (some ⟨g,off,none⟩) n c) {i:Nat} (hi:i < l.length) :
    g < B∧w.cell? ⟨g,off+i * 4,none⟩ = some (.string l[i].name)∧w.cell? ⟨g,off+i * 4+1,none⟩ = some (.int .u8 l[i].t.k)∧w.cell? ⟨g,off+i * 4+2,none⟩ = some (.string l[i].t.n)∧w.cell? ⟨g,off+i * 4+3,none⟩ = some (.int .i64 l[i].t.z):=by
  obtain⟨h1,h2⟩:=h.at hs i hi
  obtain⟨p0,p1,p2,p3⟩:=cells4 h2
  exact⟨h1,p0,p1,p2,p3⟩
theorem named_any (c:Nat) (e:En) (tv:Value) (p:Int) (res:Ty) (loc:List Fd) (v:Value) (s:ByteArray) (w:World) (h:Tk c e tv p res w) (hL:Lc w v loc) :
    Calls Tryz.prog 113 #[.pointer (some ⟨c,0,none⟩),.string s,v] w (TyE p (namedT e loc s) w):=by
  obtain⟨ao,rfl⟩:=lc_ptr hL
  obtain⟨W1,hW1⟩:∃ W1,W1=w.alloc (.cells #[.int .u8 0,.string ⟨#[]⟩,.int .i64 0] 30):=⟨_,rfl⟩
  have hb1:Below w.heap.size w W1:=by rw [hW1];exact below_box w _
  have hz1:W1.heap.size=w.heap.size+1:=by rw [hW1];simp
  have hO:W1.heap[w.heap.size]? = some (.cells #[.int .u8 0,.string ⟨#[]⟩,.int .i64 0] 30 (0,0)):=by rw [hW1];exact (MapKept.heap_alloc _ _).1
  have hlt:=h.lt
  have h1:=h.kept hb1
  obtain⟨K,⟨-,q1,-,-,-,-,q6,-,q8,-,-,-⟩,-,-,hms,-⟩:=h1.cells
  obtain⟨ms,hms'⟩:∃ m,m=K.ms:=⟨_,rfl⟩
  rw [← hms'] at q6 hms
  have HSL:=hid h1.ein.slies
  have HL1:=hid (hL.below hb1)
  have HMS:=hid hms
  have HB:=hid hb1
  have HO:=hid hO
  have HW:=hid hW1
  obtain⟨R,hR⟩:∃ R,R=namedT e loc s:=⟨_,rfl⟩
  rw [← hR]
  have HRR:=hid hR
  clear h hL h1 hms hms' hb1 hW1 hO hR
  cases hfl:findL s loc with
  | some f =>
    have HR:=hid (show R = .ok f.t by rw [HRR.out];unfold namedT;rw [hfl])
    have HFL:=hid hfl
    clear hfl
    go_enter Tryz.func113,Tryz.ntmps113
    go_wp2_with fail
    rw [← HW.out]
    refine (find_any s loc (.pointer ao) W1 HL1.out).mono ?_;rintro e' w' ⟨hfe,rfl⟩
    obtain⟨g,v',rfl,hgb⟩:=hfe.2 _ HFL.out
    obtain⟨o0,o1,o2,o3,o4⟩:=own5b hgb
    clear hfe hgb
    go_wp2_with (refine wpList_put rfl 30 (Operand.tmp 6) (Operand.tmp 19) rfl (w.heap.size) 30 _ #[.int .u8 f.t.k,.string f.t.n,.int .i64 f.t.z] rfl rfl HO.out rfl (by kernel_rfl) (by simp [Value.oneCell']) ?_)
    intro w6 hp6
    have HP6:=hid hp6
    clear hp6
    go_wp2_with fail
    refine bodyPost_ret (v:=.agg #[.int .u8 f.t.k,.string f.t.n,.int .i64 f.t.z]) (results_cell_row rfl _ _ (w.heap.size) 30 _ (0,0) _ rfl HP6.out.at_b Tryz.underlying30 rfl (by kernel_rfl)) rfl ?_
    exact TyE.ok (t:=f.t) HR.out (HP6.out.below HB.out (by omega))
  | none =>
    have HFL:=hid hfl
    cases hx:idx s (fnames e.shared) with
    | none =>
      have HR:=hid (show R = .error 9 by rw [HRR.out];unfold namedT;rw [hfl];simp only [hx])
      have hlk:=look_no2 HMS.out hx W1 rfl
      clear hfl hx
      go_enter Tryz.func113,Tryz.ntmps113
      go_wp2_with fail
      rw [← HW.out]
      refine (find_any s loc (.pointer ao) W1 HL1.out).mono ?_;rintro e' w' ⟨hfe,rfl⟩
      obtain rfl:=hfe.1 HFL.out
      clear hfe
      go_wp2_with fail
      refine (tmust_no c p 9 W1 q8).mono ?_;rintro e' w' ⟨rfl,rfl⟩
      exact⟨rfl,TyE.no HR.out HB.out⟩
    | some i =>
      have hil:=idx_lt hx
      have hil2:i < e.shared.length:=by simpa [fnames] using hil
      have HR:=hid (show R = .ok e.shared[i].t by rw [HRR.out];unfold namedT;rw [hfl];simp only [hx];rw [List.getElem?_eq_getElem hil2];rfl)
      have hlk:=look_at2 HMS.out hx W1 rfl
      obtain⟨so,sc,es,hsl,hsg⟩:=HSL.out.form
      obtain⟨g,off,rfl,hg⟩:=hsg (by omega)
      obtain⟨-,p0,p1,p2,p3⟩:=st_field HSL.out es hil2
      rw [es] at q1
      obtain⟨N,hN⟩:∃ N,N=e.shared.length:=⟨_,rfl⟩
      rw [← hN] at q1 hil2 hsl
      have hi1:(i:Int) < (N:Int):=by omega
      have hi0:(0:Int)≤(i:Int):=by omega
      generalize e.shared[i] = f at *
      clear hfl hx hil hsg es hN
      go_enter Tryz.func113,Tryz.ntmps113
      go_wp2_with fail
      rw [← HW.out]
      refine (find_any s loc (.pointer ao) W1 HL1.out).mono ?_;rintro e' w' ⟨hfe,rfl⟩
      obtain rfl:=hfe.1 HFL.out
      clear hfe
      go_wp2_with fail
      refine (tmust_yes c 9 W1).mono ?_;rintro e' w' ⟨rfl,rfl⟩
      go_wp2_with (refine wpList_put rfl 30 (Operand.tmp 6) (Operand.tmp 40) rfl (w.heap.size) 30 _ #[.int .u8 f.t.k,.string f.t.n,.int .i64 f.t.z] rfl rfl HO.out rfl (by kernel_rfl) (by simp [Value.oneCell']) ?_)
      intro w6 hp6
      have HP6:=hid hp6
      clear hp6
      go_wp2_with fail
      refine bodyPost_ret (v:=.agg #[.int .u8 f.t.k,.string f.t.n,.int .i64 f.t.z]) (results_cell_row rfl _ _ (w.heap.size) 30 _ (0,0) _ rfl HP6.out.at_b Tryz.underlying30 rfl (by kernel_rfl)) rfl ?_
      exact TyE.ok (t:=f.t) HR.out (HP6.out.below HB.out (by omega))
theorem element_any (c:Nat) (e:En) (tv:Value) (p:Int) (res t u:Ty) (w:World) (h:Tk c e tv p res w) :
    Calls Tryz.prog 115 #[.pointer (some ⟨c,0,none⟩),t.val,u.val] w (TyE p (elemT t u) w):=by
  obtain⟨ak,an,az⟩:=t
  obtain⟨bk,bn,bz⟩:=u
  obtain⟨W1,hW1⟩:∃ W1,W1=((w.alloc (.cells #[.int .u8 ak,.string an,.int .i64 az] 30)).alloc (.cells #[.int .u8 bk,.string bn,.int .i64 bz] 30)).alloc (.cells #[.int .u8 0,.string ⟨#[]⟩,.int .i64 0] 30):=⟨_,rfl⟩
  have hb1:Below w.heap.size w W1:=by rw [hW1];exact ((below_box w _).alloc (by simp) _).alloc (by simp;omega) _
  have hz1:W1.heap.size=w.heap.size+3:=by rw [hW1];simp
  have hOA:W1.heap[w.heap.size]? = some (.cells #[.int .u8 ak,.string an,.int .i64 az] 30 (0,0)):=by rw [hW1,Below.heap_alloc _ _ _ (by simp;omega),Below.heap_alloc _ _ _ (by simp)];exact (MapKept.heap_alloc _ _).1
  have hOB:W1.heap[w.heap.size+1]? = some (.cells #[.int .u8 bk,.string bn,.int .i64 bz] 30 (0,0)):=by rw [hW1,Below.heap_alloc _ _ _ (by simp),show w.heap.size+1=(w.alloc (.cells #[.int .u8 ak,.string an,.int .i64 az] 30)).heap.size by simp];exact (MapKept.heap_alloc _ _).1
  have hO:W1.heap[w.heap.size+2]? = some (.cells #[.int .u8 0,.string ⟨#[]⟩,.int .i64 0] 30 (0,0)):=by rw [hW1,show w.heap.size+2=((w.alloc (.cells #[.int .u8 ak,.string an,.int .i64 az] 30)).alloc (.cells #[.int .u8 bk,.string bn,.int .i64 bz] 30)).heap.size by simp];exact (MapKept.heap_alloc _ _).1
  have h1:=h.kept hb1
  obtain⟨K,⟨-,-,-,-,-,-,-,-,q8,-,-,-⟩,-⟩:=h1.cells
  have HB:=hid hb1
  have HO:=hid hO
  have HOA:=hid hOA
  have HOB:=hid hOB
  have HW:=hid hW1
  have HNU:=hid (number_any c e tv p res ⟨bk,bn,bz⟩ W1 h1)
  obtain⟨a0,a1,a2⟩:=own3 hOA
  obtain⟨d0,d1,d2⟩:=own3 hOB
  rw [hW1] at a0 a1 a2 d0 d1 d2
  obtain⟨R,hR⟩:∃ R,R=elemT ⟨ak,an,az⟩ ⟨bk,bn,bz⟩:=⟨_,rfl⟩
  show Calls Tryz.prog 115 #[.pointer (some ⟨c,0,none⟩),.agg #[.int .u8 ak,.string an,.int .i64 az],.agg #[.int .u8 bk,.string bn,.int .i64 bz]] w (TyE p (elemT ⟨ak,an,az⟩ ⟨bk,bn,bz⟩) w)
  rw [← hR]
  unfold elemT at hR
  simp only at hR
  clear h h1 hb1 hW1 hO hOA hOB
  by_cases hk:ak=3
  rotate_left
  · have HR:=hid (show R = .error 10 by rw [hR,if_pos hk])
    have hq0:(ak == 3)=false:=beq_eq_false_iff_ne.2 hk
    clear hk hR
    go_enter Tryz.func115,Tryz.ntmps115
    go_wp2_with fail
    rw [← HW.out]
    refine (tmust_no c p 10 W1 q8).mono ?_;rintro e' w' ⟨rfl,rfl⟩
    exact⟨rfl,TyE.no HR.out HB.out⟩
  have hR2:R=if (⟨bk,bn,bz⟩:Ty) ≠ intT then .error 10 else .ok (if an.data.toList = [] then intT else ⟨2,an,0⟩):=by rw [hR,if_neg (fun q=>q hk)]
  have hq0:(ak == 3)=true:=beq_iff_eq.2 hk
  clear hk hR
  by_cases hu:(⟨bk,bn,bz⟩:Ty)=intT
  rotate_left
  · have HR:=hid (show R = .error 10 by rw [hR2,if_pos hu])
    rw [if_neg hu] at HNU
    clear hu hR2
    go_enter Tryz.func115,Tryz.ntmps115
    go_wp2_with fail
    rw [← HW.out]
    refine (tmust_yes c 10 W1).mono ?_;rintro e' w' ⟨rfl,rfl⟩
    rw [HW.out]
    go_wp2_with fail
    rw [← HW.out]
    refine HNU.out.mono ?_;rintro e' w2 ⟨rfl,hb2⟩
    exact⟨rfl,TyE.no HR.out (HB.out.trans (hb2.mono (by omega)))⟩
  rw [if_pos hu] at HNU
  have hR3:R = .ok (if an.data.toList = [] then intT else ⟨2,an,0⟩):=by rw [hR2,if_neg (fun q=>q hu)]
  clear hR2 hu
  by_cases hen:an.data.toList = []
  · have HR:=hid (show R = .ok intT by rw [hR3,if_pos hen])
    have t1:=emp_yes hen
    have t2:=nil_yes hen
    clear hen hR3
    go_enter Tryz.func115,Tryz.ntmps115
    go_wp2_with fail
    rw [← HW.out]
    refine (tmust_yes c 10 W1).mono ?_;rintro e' w' ⟨rfl,rfl⟩
    rw [HW.out]
    go_wp2_with fail
    rw [← HW.out]
    refine HNU.out.mono ?_;rintro e' w2 ⟨rfl,hb2⟩
    have hs2:=hb2.size
    have HB2:=hid (HB.out.trans (hb2.mono (by omega)))
    have hOA2:=(hb2.block _ (by omega)).trans HOA.out
    have HO2:=hid ((hb2.block _ (by omega)).trans HO.out)
    clear a0 a1 a2 d0 d1 d2 hb2
    obtain⟨a0,a1,a2⟩:=own3 hOA2
    clear hOA2
    go_wp2_with fail
    refine (inttype_any _).mono ?_;rintro e' w3 ⟨rfl,hb3⟩
    have hs3:=hb3.size
    have HB3:=hid (HB2.out.trans (hb3.mono (by omega)))
    have HO3:=hid ((hb3.block _ (by omega)).trans HO2.out)
    clear hb3 a0 a1 a2
    go_wp2_with (refine wpList_put rfl 30 (Operand.tmp 6) (Operand.tmp 18) rfl (w.heap.size+2) 30 _ #[.int .u8 1,.string ⟨#[]⟩,.int .i64 0] rfl rfl HO3.out rfl (by kernel_rfl) (by simp [Value.oneCell']) ?_)
    intro w6 hp6
    have HP6:=hid hp6
    clear hp6
    go_wp2_with fail
    refine bodyPost_ret (v:=.agg #[.int .u8 1,.string ⟨#[]⟩,.int .i64 0]) (results_cell_row rfl _ _ (w.heap.size+2) 30 _ (0,0) _ rfl HP6.out.at_b Tryz.underlying30 rfl (by kernel_rfl)) rfl ?_
    exact TyE.ok (t:=intT) HR.out (HP6.out.below HB3.out (by omega))
  · have HR:=hid (show R = .ok ⟨2,an,0⟩ by rw [hR3,if_neg hen])
    have t1:=emp_no hen
    have hbu:∀ w,(Instr.build 30 #[(0,.int .u8 2),(1,.string an)]).run Tryz.prog w = .ok (.agg #[.int .u8 2,.string an,.int .i64 0]) w:=fun w=>by kernel_rfl
    clear hen hR3
    go_enter Tryz.func115,Tryz.ntmps115
    go_wp2_with fail
    rw [← HW.out]
    refine (tmust_yes c 10 W1).mono ?_;rintro e' w' ⟨rfl,rfl⟩
    rw [HW.out]
    go_wp2_with fail
    rw [← HW.out]
    refine HNU.out.mono ?_;rintro e' w2 ⟨rfl,hb2⟩
    have hs2:=hb2.size
    have HB2:=hid (HB.out.trans (hb2.mono (by omega)))
    have hOA2:=(hb2.block _ (by omega)).trans HOA.out
    have HO2:=hid ((hb2.block _ (by omega)).trans HO.out)
    clear a0 a1 a2 d0 d1 d2 hb2
    obtain⟨a0,a1,a2⟩:=own3 hOA2
    clear hOA2
    go_wp2_with (refine wpList_put rfl 30 (Operand.tmp 6) (Operand.tmp 21) rfl (w.heap.size+2) 30 _ #[.int .u8 2,.string an,.int .i64 0] rfl rfl HO2.out rfl (by kernel_rfl) (by simp [Value.oneCell']) ?_)
    intro w6 hp6
    have HP6:=hid hp6
    clear hp6
    go_wp2_with fail
    refine bodyPost_ret (v:=.agg #[.int .u8 2,.string an,.int .i64 0]) (results_cell_row rfl _ _ (w.heap.size+2) 30 _ (0,0) _ rfl HP6.out.at_b Tryz.underlying30 rfl (by kernel_rfl)) rfl ?_
    exact TyE.ok (t:=⟨2,an,0⟩) HR.out (HP6.out.below HB2.out (by omega))
end Go.Proofs.YtdhieihcmnpneaaGreatDoor
/- What the types layer finds of a field. -/
namespace Go.Proofs.YtdhieihcmnpneaaGreatDoor
open Lib (hid)
set_option maxRecDepth 100000
set_option maxHeartbeats 1000000
open Go.RowKit
attribute [local go_sem ↓] Go.wp_at_zero Go.wp_at_succ
theorem rec_at {w:World} {e:En} (h:EIn w w.heap.size e) {g off n c:Nat} (hs:e.rv = .slice (some ⟨g,off,none⟩) n c) {i:Nat} {r:Rc} (hi:e.records[i]? = some r) :
    g < w.heap.size∧w.cell? ⟨g,off+i * 2,none⟩ = some (.string r.name)∧w.cell? ⟨g,off+i * 2+1,none⟩ = some r.v:=by
  obtain⟨hl,rfl⟩:=List.getElem?_eq_some_iff.1 hi
  obtain⟨h1,h2⟩:=h.rlies.at hs i hl
  obtain⟨p0,p1⟩:=cells2 h2
  exact⟨h1,p0,p1⟩
theorem st_field2 {w:World} {B:Nat} {v:Value} {l:List Fd} (h:LiesG Fd.cells 4 w B v l) {g off n c:Nat} (hs:v = .slice (some ⟨g,off,none⟩) n c) {i:Nat} {f:Fd} (hi:l[i]? = some f) :
    g < B∧w.cell? ⟨g,off+i * 4,none⟩ = some (.string f.name)∧w.cell? ⟨g,off+i * 4+1,none⟩ = some (.int .u8 f.t.k)∧w.cell? ⟨g,off+i * 4+2,none⟩ = some (.string f.t.n)∧w.cell? ⟨g,off+i * 4+3,none⟩ = some (.int .i64 f.t.z):=by
  obtain⟨hl,rfl⟩:=List.getElem?_eq_some_iff.1 hi
  exact st_field h hs hl
theorem field_any (c:Nat) (e:En) (tv:Value) (p:Int) (res t:Ty) (s:ByteArray) (w:World) (h:Tk c e tv p res w) :
    Calls Tryz.prog 114 #[.pointer (some ⟨c,0,none⟩),t.val,.string s] w (TyE p (fieldT e t s) w):=by
  obtain⟨ak,an,az⟩:=t
  obtain⟨W1,hW1⟩:∃ W1,W1=(w.alloc (.cells #[.int .u8 ak,.string an,.int .i64 az] 30)).alloc (.cells #[.int .u8 0,.string ⟨#[]⟩,.int .i64 0] 30):=⟨_,rfl⟩
  have hb1:Below w.heap.size w W1:=by rw [hW1];exact (below_box w _).alloc (by simp) _
  have hz1:W1.heap.size=w.heap.size+2:=by rw [hW1];simp
  have hOA:W1.heap[w.heap.size]? = some (.cells #[.int .u8 ak,.string an,.int .i64 az] 30 (0,0)):=by rw [hW1,Below.heap_alloc _ _ _ (by simp)];exact (MapKept.heap_alloc _ _).1
  have hO:W1.heap[w.heap.size+1]? = some (.cells #[.int .u8 0,.string ⟨#[]⟩,.int .i64 0] 30 (0,0)):=by rw [hW1,show w.heap.size+1=(w.alloc (.cells #[.int .u8 ak,.string an,.int .i64 az] 30)).heap.size by simp];exact (MapKept.heap_alloc _ _).1
  have hlt:=h.lt
  have h1:=h.kept hb1
  obtain⟨K,⟨q0,-,-,-,q4,q5,-,-,q8,-,-,-⟩,-,hmr,-,-,hKn,hKl,hKg,hKm⟩:=h1.cells
  obtain⟨mr,hmr'⟩:∃ m,m=K.mr:=⟨_,rfl⟩
  rw [← hmr'] at q4 hmr
  have HMR:=hid hmr
  have HE:=hid h1.ein
  have HB:=hid hb1
  have HO:=hid hO
  have HW:=hid hW1
  obtain⟨a0,a1,a2⟩:=own3 hOA
  obtain⟨R,hR⟩:∃ R,R=fieldT e ⟨ak,an,az⟩ s:=⟨_,rfl⟩
  show Calls Tryz.prog 114 #[.pointer (some ⟨c,0,none⟩),.agg #[.int .u8 ak,.string an,.int .i64 az],.string s] w (TyE p (fieldT e ⟨ak,an,az⟩ s) w)
  rw [← hR]
  unfold fieldT at hR
  simp only at hR
  have hml:=hmr.lt
  clear h h1 hb1 hmr hmr' hO hOA
  by_cases hk:ak=2
  rotate_left
  · have HR:=hid (show R = .error 10 by rw [hR,if_pos hk])
    have hq0:(ak == 2)=false:=beq_eq_false_iff_ne.2 hk
    rw [hW1] at a0 a1 a2
    clear hk hR hW1 hKn hKl hKg hKm
    go_enter Tryz.func114,Tryz.ntmps114
    go_wp2_with fail
    rw [← HW.out]
    refine (tmust_no c p 10 W1 q8).mono ?_;rintro e' w' ⟨rfl,rfl⟩
    exact⟨rfl,TyE.no HR.out HB.out⟩
  rw [if_neg (fun q=>q hk)] at hR
  have hq0:(ak == 2)=true:=beq_iff_eq.2 hk
  clear hk
  cases hx:idx an (rnames e.records) with
  | none =>
    have HR:=hid (show R = .error 9 by rw [hR,hx])
    have HX:=hid hx
    have hml2:mr < w.heap.size+2:=by omega
    clear hR hW1 hKn hKl hKg hKm hx
    go_enter Tryz.func114,Tryz.ntmps114
    rw [HW.out] at a0 a1 a2
    go_wp2_with fail
    rw [← HW.out]
    refine (tmust_yes c 10 W1).mono ?_;rintro e' w' ⟨rfl,rfl⟩
    rw [← HW.out] at a0 a1 a2
    go_wp2_with fail
    refine wp_region_held_drew (S:=SameTo (w.heap.size+2) W1) (by kernel_rfl) (SameTo.drew _ _) (fun hSw=>?_)
    refine wt (i:=0) (oi:={ dst:=some 16,op:=Op.move (Operand.tmp 0),type:=73,pos := "exprs.go:71", after:=#[],guard:=none }) (v:=.pointer (some ⟨c,0,none⟩)) (fun W hW=>?_) hSw ?_
    · first|(go_simp;done)|rfl
    try simp only [Act.put,q1,q2,q3]
    refine wt (i:=1) (oi:={ dst:=some 17,op:=Op.nilCheck (Operand.tmp 16),type:=0,pos := "exprs.go:71", after:=#[gd 0],guard:=none }) (v:=.pointer (some ⟨c,0,none⟩)) (fun W hW=>?_) hSw ?_
    · first|(go_simp;done)|rfl
    try simp only [Act.put,q1,q2,q3]
    refine wt (i:=2) (oi:={ dst:=some 18,op:=Op.fieldAddr 112 (Operand.tmp 17) 1,type:=0,pos := "exprs.go:71", after:=#[gd 1],guard:=none }) (v:=.pointer (some ⟨c,4,none⟩)) (fun W hW=>?_) hSw ?_
    · first|(go_simp;done)|rfl
    try simp only [Act.put,q1,q2,q3]
    refine wt (i:=3) (oi:={ dst:=some 19,op:=Op.load 104 (Operand.tmp 18),type:=104,pos := "exprs.go:71", after:=#[gd 2],guard:=none }) (v:=.map (some mr)) (fun W hW=>?_) hSw ?_
    · have q4:=hW.cell (by dsimp only;omega) q4
      first|(go_simp;done)|rfl
    try simp only [Act.put,q1,q2,q3]
    refine wt (i:=4) (oi:={ dst:=some 20,op:=Op.fieldAddr 30 (Operand.tmp 4) 1,type:=0,pos := "exprs.go:71", after:=#[],guard:=none }) (v:=.pointer (some ⟨w.heap.size,1,none⟩)) (fun W hW=>?_) hSw ?_
    · first|(go_simp;done)|rfl
    try simp only [Act.put,q1,q2,q3]
    refine wt (i:=5) (oi:={ dst:=some 21,op:=Op.load 9 (Operand.tmp 20),type:=9,pos := "exprs.go:71", after:=#[gd 4],guard:=none }) (v:=.string an) (fun W hW=>?_) hSw ?_
    · have a1:=hW.cell (by dsimp only;omega) a1
      first|(go_simp;done)|rfl
    try simp only [Act.put,q1,q2,q3]
    refine wt (i:=6) (oi:={ dst:=some 22,op:=Op.lookup 104 (Operand.tmp 19) (Operand.tmp 21) true,type:=75,pos := "exprs.go:71", after:=#[gd 3,gd 5],guard:=none }) (v:=.tuple #[.int .i64 0,.bool false]) (fun W hW=>?_) hSw ?_
    · have hlk:=look_no2 HMR.out HX.out W (hW _ (by omega))
      first|(go_simp;done)|rfl
    try simp only [Act.put,q1,q2,q3]
    refine wt (i:=7) (oi:={ dst:=some 15,op:=Op.move (Operand.tmp 22),type:=75,pos := "exprs.go:71", after:=#[gd 6],guard:=none }) (v:=.tuple #[.int .i64 0,.bool false]) (fun W hW=>?_) hSw ?_
    · first|(go_simp;done)|rfl
    try simp only [Act.put,q1,q2,q3]
    refine wt (i:=8) (oi:={ dst:=some 23,op:=Op.extract (Operand.tmp 15) 0,type:=3,pos := "exprs.go:71", after:=#[gd 7],guard:=none }) (v:=.int .i64 0) (fun W hW=>?_) hSw ?_
    · first|(go_simp;done)|rfl
    try simp only [Act.put,q1,q2,q3]
    refine wt (i:=9) (oi:={ dst:=some 24,op:=Op.extract (Operand.tmp 15) 1,type:=4,pos := "exprs.go:71", after:=#[gd 7,{ on:=10,ground:=Ground.gcOnly Departure.lateStores }],guard:=none }) (v:=.bool false) (fun W hW=>?_) hSw ?_
    · first|(go_simp;done)|rfl
    try simp only [Act.put,q1,q2,q3]
    refine wt (i:=10) (oi:={ dst:=some 7,op:=Op.assign (Operand.tmp 23),type:=3,pos := "exprs.go:71", after:=#[gd 8,gp 0,gp 1,gp 2,gp 3,gp 4,gp 5,gp 6,gp 7,gp 8,{ on:=9,ground:=Ground.textOnly Departure.lateStores }],guard:=none }) (v:=.int .i64 0) (fun W hW=>?_) hSw ?_
    · first|(go_simp;done)|rfl
    try simp only [Act.put,q1,q2,q3]
    refine wt (i:=11) (oi:={ dst:=some 8,op:=Op.assign (Operand.tmp 24),type:=4,pos := "exprs.go:71", after:=#[gd 9,gc 10,gp 0,gp 1,gp 2,gp 3,gp 4,gp 5,gp 6,gp 7,gp 8,gp 9,gp 10],guard:=none }) (v:=.bool false) (fun W hW=>?_) hSw ?_
    · first|(go_simp;done)|rfl
    try simp only [Act.put,q1,q2,q3]
    refine wpAnyH_done (by kernel_rfl) ?_ _
    go_wp2_with fail
    refine (tmust_no c p 9 W1.drew q8).mono ?_;rintro e' w' ⟨rfl,rfl⟩
    exact⟨rfl,TyE.no HR.out HB.out.drew⟩
  | some i =>
    have hil0:=idx_lt hx
    have hil:i < e.records.length:=by simpa [rnames] using hil0
    have HX:=hid hx
    have hml2:mr < w.heap.size+2:=by omega
    obtain⟨rr,hrr⟩:∃ r,e.records[i]? = some r:=⟨_,List.getElem?_eq_getElem hil⟩
    obtain⟨m,hm1,hm2,-⟩:=hKm i _ hrr
    obtain⟨hKa,hKg2,-⟩:=hKg (by omega)
    obtain⟨kg,hkg⟩:∃ g,g=K.g:=⟨_,rfl⟩
    obtain⟨kn,hkn⟩:∃ g,g=K.n:=⟨_,rfl⟩
    obtain⟨kc,hkc⟩:∃ g,g=K.cap:=⟨_,rfl⟩
    rw [hKa,← hkg,← hkn,← hkc] at q5
    rw [← hkg] at hm1 hKg2
    rw [← hkn] at hKn hKl
    have HR2:=hid (show R=match idx s (fnames rr.fields) with
        | none=>.error 9
        | some j=>.ok ((rr.fields[j]?.map (·.t)).getD noT) by rw [hR,hx];simp only [hrr,Option.map_some,Option.getD_some] <;> rfl)
    have hi1:(i:Int) < (kn:Int):=by omega
    have hi0:(0:Int)≤(i:Int):=by omega
    have HM:=hid hm2
    obtain⟨ro,rc,er,hrl,hrg⟩:=HE.out.rlies.form
    obtain⟨g,off,rfl,hg⟩:=hrg (by omega)
    obtain⟨-,-,r1⟩:=rec_at HE.out er hrr
    have hrin:=HE.out.records _ (List.mem_of_getElem? hrr)
    obtain⟨fo,fc,ef,hfl,hfg⟩:=hrin.lies.form
    rw [er] at q0
    rw [ef] at r1
    obtain⟨N,hN⟩:∃ N,N=e.records.length:=⟨_,rfl⟩
    obtain⟨M,hM⟩:∃ M,M=rr.fields.length:=⟨_,rfl⟩
    rw [← hN] at q0 hrl
    rw [← hM] at r1 hfl
    have hi2:(i:Int) < (N:Int):=by omega
    have HMM:=hid hM
    have HRI:=hid hrin
    have HEF:=hid ef
    clear hR hW1 hKn hKg hKm hx hil0 hm2 hKa hkg hkn hkc er hrg hrin ef hN hM hrr
    cases hy:idx s (fnames rr.fields) with
    | none =>
      have HR:=hid (show R = .error 9 by rw [HR2.out,hy])
      have hlk2:=look_no2 HM.out hy W1.drew rfl
      clear hy hfg hil
      go_enter Tryz.func114,Tryz.ntmps114
      rw [HW.out] at a0 a1 a2
      go_wp2_with fail
      rw [← HW.out]
      refine (tmust_yes c 10 W1).mono ?_;rintro e' w' ⟨rfl,rfl⟩
      rw [← HW.out] at a0 a1 a2
      go_wp2_with fail
      refine wp_region_held_drew (S:=SameTo (w.heap.size+2) W1) (by kernel_rfl) (SameTo.drew _ _) (fun hSw=>?_)
      refine wt (i:=0) (oi:={ dst:=some 16,op:=Op.move (Operand.tmp 0),type:=73,pos := "exprs.go:71", after:=#[],guard:=none }) (v:=.pointer (some ⟨c,0,none⟩)) (fun W hW=>?_) hSw ?_
      · first|(go_simp;done)|rfl
      try simp only [Act.put,q1,q2,q3]
      refine wt (i:=1) (oi:={ dst:=some 17,op:=Op.nilCheck (Operand.tmp 16),type:=0,pos := "exprs.go:71", after:=#[gd 0],guard:=none }) (v:=.pointer (some ⟨c,0,none⟩)) (fun W hW=>?_) hSw ?_
      · first|(go_simp;done)|rfl
      try simp only [Act.put,q1,q2,q3]
      refine wt (i:=2) (oi:={ dst:=some 18,op:=Op.fieldAddr 112 (Operand.tmp 17) 1,type:=0,pos := "exprs.go:71", after:=#[gd 1],guard:=none }) (v:=.pointer (some ⟨c,4,none⟩)) (fun W hW=>?_) hSw ?_
      · first|(go_simp;done)|rfl
      try simp only [Act.put,q1,q2,q3]
      refine wt (i:=3) (oi:={ dst:=some 19,op:=Op.load 104 (Operand.tmp 18),type:=104,pos := "exprs.go:71", after:=#[gd 2],guard:=none }) (v:=.map (some mr)) (fun W hW=>?_) hSw ?_
      · have q4:=hW.cell (by dsimp only;omega) q4
        first|(go_simp;done)|rfl
      try simp only [Act.put,q1,q2,q3]
      refine wt (i:=4) (oi:={ dst:=some 20,op:=Op.fieldAddr 30 (Operand.tmp 4) 1,type:=0,pos := "exprs.go:71", after:=#[],guard:=none }) (v:=.pointer (some ⟨w.heap.size,1,none⟩)) (fun W hW=>?_) hSw ?_
      · first|(go_simp;done)|rfl
      try simp only [Act.put,q1,q2,q3]
      refine wt (i:=5) (oi:={ dst:=some 21,op:=Op.load 9 (Operand.tmp 20),type:=9,pos := "exprs.go:71", after:=#[gd 4],guard:=none }) (v:=.string an) (fun W hW=>?_) hSw ?_
      · have a1:=hW.cell (by dsimp only;omega) a1
        first|(go_simp;done)|rfl
      try simp only [Act.put,q1,q2,q3]
      refine wt (i:=6) (oi:={ dst:=some 22,op:=Op.lookup 104 (Operand.tmp 19) (Operand.tmp 21) true,type:=75,pos := "exprs.go:71", after:=#[gd 3,gd 5],guard:=none }) (v:=.tuple #[.int .i64 (i:Int),.bool true]) (fun W hW=>?_) hSw ?_
      · have hlk:=look_at2 HMR.out HX.out W (hW _ (by omega))
        first|(go_simp;done)|rfl
      try simp only [Act.put,q1,q2,q3]
      refine wt (i:=7) (oi:={ dst:=some 15,op:=Op.move (Operand.tmp 22),type:=75,pos := "exprs.go:71", after:=#[gd 6],guard:=none }) (v:=.tuple #[.int .i64 (i:Int),.bool true]) (fun W hW=>?_) hSw ?_
      · first|(go_simp;done)|rfl
      try simp only [Act.put,q1,q2,q3]
      refine wt (i:=8) (oi:={ dst:=some 23,op:=Op.extract (Operand.tmp 15) 0,type:=3,pos := "exprs.go:71", after:=#[gd 7],guard:=none }) (v:=.int .i64 (i:Int)) (fun W hW=>?_) hSw ?_
      · first|(go_simp;done)|rfl
      try simp only [Act.put,q1,q2,q3]
      refine wt (i:=9) (oi:={ dst:=some 24,op:=Op.extract (Operand.tmp 15) 1,type:=4,pos := "exprs.go:71", after:=#[gd 7,{ on:=10,ground:=Ground.gcOnly Departure.lateStores }],guard:=none }) (v:=.bool true) (fun W hW=>?_) hSw ?_
      · first|(go_simp;done)|rfl
      try simp only [Act.put,q1,q2,q3]
      refine wt (i:=10) (oi:={ dst:=some 7,op:=Op.assign (Operand.tmp 23),type:=3,pos := "exprs.go:71", after:=#[gd 8,gp 0,gp 1,gp 2,gp 3,gp 4,gp 5,gp 6,gp 7,gp 8,{ on:=9,ground:=Ground.textOnly Departure.lateStores }],guard:=none }) (v:=.int .i64 (i:Int)) (fun W hW=>?_) hSw ?_
      · first|(go_simp;done)|rfl
      try simp only [Act.put,q1,q2,q3]
      refine wt (i:=11) (oi:={ dst:=some 8,op:=Op.assign (Operand.tmp 24),type:=4,pos := "exprs.go:71", after:=#[gd 9,gc 10,gp 0,gp 1,gp 2,gp 3,gp 4,gp 5,gp 6,gp 7,gp 8,gp 9,gp 10],guard:=none }) (v:=.bool true) (fun W hW=>?_) hSw ?_
      · first|(go_simp;done)|rfl
      try simp only [Act.put,q1,q2,q3]
      refine wpAnyH_done (by kernel_rfl) ?_ _
      go_wp2_with fail
      refine (tmust_yes c 9 W1.drew).mono ?_;rintro e' w' ⟨rfl,rfl⟩
      go_wp2_with fail
      refine (tmust_no c p 9 W1.drew q8).mono ?_;rintro e' w' ⟨rfl,rfl⟩
      exact⟨rfl,TyE.no HR.out HB.out.drew⟩
    | some j =>
      have hjl0:=idx_lt hy
      have hjl:j < rr.fields.length:=by simpa [fnames] using hjl0
      obtain⟨⟨fnm,⟨fk,fn,fz⟩⟩,hff⟩:∃ f,rr.fields[j]? = some f:=⟨_,List.getElem?_eq_getElem hjl⟩
      have HR:=hid (show R = .ok ⟨fk,fn,fz⟩ by rw [HR2.out,hy];simp only [hff,Option.map_some,Option.getD_some])
      have hlk2:=look_at2 HM.out hy W1.drew rfl
      obtain⟨g2,off2,rfl,hg2⟩:=hfg (by omega)
      obtain⟨hg3,f0,f1,f2,f3⟩:=st_field2 HRI.out.lies HEF.out hff
      have hj1:(j:Int) < (M:Int):=by rw [HMM.out];omega
      have hj0:(0:Int)≤(j:Int):=by omega
      simp only at f0 f1 f2 f3
      clear hff
      have HO1:=hid (show W1.drew.heap[w.heap.size+1]? = some (.cells #[.int .u8 0,.string ⟨#[]⟩,.int .i64 0] 30 (0,0)) from HO.out)
      have HBD:=hid HB.out.drew
      clear hy hfg hjl0 hjl hil
      go_enter Tryz.func114,Tryz.ntmps114
      rw [HW.out] at a0 a1 a2
      go_wp2_with fail
      rw [← HW.out]
      refine (tmust_yes c 10 W1).mono ?_;rintro e' w' ⟨rfl,rfl⟩
      rw [← HW.out] at a0 a1 a2
      go_wp2_with fail
      refine wp_region_held_drew (S:=SameTo (w.heap.size+2) W1) (by kernel_rfl) (SameTo.drew _ _) (fun hSw=>?_)
      refine wt (i:=0) (oi:={ dst:=some 16,op:=Op.move (Operand.tmp 0),type:=73,pos := "exprs.go:71", after:=#[],guard:=none }) (v:=.pointer (some ⟨c,0,none⟩)) (fun W hW=>?_) hSw ?_
      · first|(go_simp;done)|rfl
      try simp only [Act.put,q1,q2,q3]
      refine wt (i:=1) (oi:={ dst:=some 17,op:=Op.nilCheck (Operand.tmp 16),type:=0,pos := "exprs.go:71", after:=#[gd 0],guard:=none }) (v:=.pointer (some ⟨c,0,none⟩)) (fun W hW=>?_) hSw ?_
      · first|(go_simp;done)|rfl
      try simp only [Act.put,q1,q2,q3]
      refine wt (i:=2) (oi:={ dst:=some 18,op:=Op.fieldAddr 112 (Operand.tmp 17) 1,type:=0,pos := "exprs.go:71", after:=#[gd 1],guard:=none }) (v:=.pointer (some ⟨c,4,none⟩)) (fun W hW=>?_) hSw ?_
      · first|(go_simp;done)|rfl
      try simp only [Act.put,q1,q2,q3]
      refine wt (i:=3) (oi:={ dst:=some 19,op:=Op.load 104 (Operand.tmp 18),type:=104,pos := "exprs.go:71", after:=#[gd 2],guard:=none }) (v:=.map (some mr)) (fun W hW=>?_) hSw ?_
      · have q4:=hW.cell (by dsimp only;omega) q4
        first|(go_simp;done)|rfl
      try simp only [Act.put,q1,q2,q3]
      refine wt (i:=4) (oi:={ dst:=some 20,op:=Op.fieldAddr 30 (Operand.tmp 4) 1,type:=0,pos := "exprs.go:71", after:=#[],guard:=none }) (v:=.pointer (some ⟨w.heap.size,1,none⟩)) (fun W hW=>?_) hSw ?_
      · first|(go_simp;done)|rfl
      try simp only [Act.put,q1,q2,q3]
      refine wt (i:=5) (oi:={ dst:=some 21,op:=Op.load 9 (Operand.tmp 20),type:=9,pos := "exprs.go:71", after:=#[gd 4],guard:=none }) (v:=.string an) (fun W hW=>?_) hSw ?_
      · have a1:=hW.cell (by dsimp only;omega) a1
        first|(go_simp;done)|rfl
      try simp only [Act.put,q1,q2,q3]
      refine wt (i:=6) (oi:={ dst:=some 22,op:=Op.lookup 104 (Operand.tmp 19) (Operand.tmp 21) true,type:=75,pos := "exprs.go:71", after:=#[gd 3,gd 5],guard:=none }) (v:=.tuple #[.int .i64 (i:Int),.bool true]) (fun W hW=>?_) hSw ?_
      · have hlk:=look_at2 HMR.out HX.out W (hW _ (by omega))
        first|(go_simp;done)|rfl
      try simp only [Act.put,q1,q2,q3]
      refine wt (i:=7) (oi:={ dst:=some 15,op:=Op.move (Operand.tmp 22),type:=75,pos := "exprs.go:71", after:=#[gd 6],guard:=none }) (v:=.tuple #[.int .i64 (i:Int),.bool true]) (fun W hW=>?_) hSw ?_
      · first|(go_simp;done)|rfl
      try simp only [Act.put,q1,q2,q3]
      refine wt (i:=8) (oi:={ dst:=some 23,op:=Op.extract (Operand.tmp 15) 0,type:=3,pos := "exprs.go:71", after:=#[gd 7],guard:=none }) (v:=.int .i64 (i:Int)) (fun W hW=>?_) hSw ?_
      · first|(go_simp;done)|rfl
      try simp only [Act.put,q1,q2,q3]
      refine wt (i:=9) (oi:={ dst:=some 24,op:=Op.extract (Operand.tmp 15) 1,type:=4,pos := "exprs.go:71", after:=#[gd 7,{ on:=10,ground:=Ground.gcOnly Departure.lateStores }],guard:=none }) (v:=.bool true) (fun W hW=>?_) hSw ?_
      · first|(go_simp;done)|rfl
      try simp only [Act.put,q1,q2,q3]
      refine wt (i:=10) (oi:={ dst:=some 7,op:=Op.assign (Operand.tmp 23),type:=3,pos := "exprs.go:71", after:=#[gd 8,gp 0,gp 1,gp 2,gp 3,gp 4,gp 5,gp 6,gp 7,gp 8,{ on:=9,ground:=Ground.textOnly Departure.lateStores }],guard:=none }) (v:=.int .i64 (i:Int)) (fun W hW=>?_) hSw ?_
      · first|(go_simp;done)|rfl
      try simp only [Act.put,q1,q2,q3]
      refine wt (i:=11) (oi:={ dst:=some 8,op:=Op.assign (Operand.tmp 24),type:=4,pos := "exprs.go:71", after:=#[gd 9,gc 10,gp 0,gp 1,gp 2,gp 3,gp 4,gp 5,gp 6,gp 7,gp 8,gp 9,gp 10],guard:=none }) (v:=.bool true) (fun W hW=>?_) hSw ?_
      · first|(go_simp;done)|rfl
      try simp only [Act.put,q1,q2,q3]
      refine wpAnyH_done (by kernel_rfl) ?_ _
      go_wp2_with fail
      refine (tmust_yes c 9 W1.drew).mono ?_;rintro e' w' ⟨rfl,rfl⟩
      go_wp2_with fail
      refine (tmust_yes c 9 W1.drew).mono ?_;rintro e' w' ⟨rfl,rfl⟩
      go_wp2_with (refine wpList_put rfl 30 (Operand.tmp 6) (Operand.tmp 55) rfl (w.heap.size+1) 30 _ #[.int .u8 fk,.string fn,.int .i64 fz] rfl rfl HO1.out rfl (by kernel_rfl) (by simp [Value.oneCell']) ?_)
      intro w6 hp6
      have HP6:=hid hp6
      clear hp6
      go_wp2_with fail
      refine bodyPost_ret (v:=.agg #[.int .u8 fk,.string fn,.int .i64 fz]) (results_cell_row rfl _ _ (w.heap.size+1) 30 _ (0,0) _ rfl HP6.out.at_b Tryz.underlying30 rfl (by kernel_rfl)) rfl ?_
      exact TyE.ok (t:=⟨fk,fn,fz⟩) HR.out (HP6.out.below HBD.out (by omega))
end Go.Proofs.YtdhieihcmnpneaaGreatDoor
/- What the types layer finds of a call. -/
namespace Go.Proofs.YtdhieihcmnpneaaGreatDoor
open Lib (hid)
set_option maxRecDepth 100000
set_option maxHeartbeats 1000000
open Go.RowKit
attribute [local go_sem ↓] Go.wp_at_zero Go.wp_at_succ
theorem fn_at {w:World} {e:En} (h:EIn w w.heap.size e) {g off n c:Nat} (hs:e.fv = .slice (some ⟨g,off,none⟩) n c) {i:Nat} {f:Fn} (hi:e.funcs[i]? = some f) :
    g < w.heap.size∧w.cell? ⟨g,off+i * 6,none⟩ = some (.string f.name)∧w.cell? ⟨g,off+i * 6+1,none⟩ = some f.pv∧w.cell? ⟨g,off+i * 6+2,none⟩ = some (.int .u8 f.res.k)∧w.cell? ⟨g,off+i * 6+3,none⟩ = some (.string f.res.n)∧w.cell? ⟨g,off+i * 6+4,none⟩ = some (.int .i64 f.res.z)∧w.cell? ⟨g,off+i * 6+5,none⟩ = some f.bv:=by
  obtain⟨hl,rfl⟩:=List.getElem?_eq_some_iff.1 hi
  obtain⟨h1,h2⟩:=h.flies.at hs i hl
  obtain⟨p0,p1,p2,p3,p4,p5⟩:=cells6 h2
  exact⟨h1,p0,p1,p2,p3,p4,p5⟩
theorem ty_at {w:World} {B:Nat} {v:Value} {l:List Ty} (h:LiesG Ty.cells 3 w B v l) {g off n c:Nat} (hs:v = .slice (some ⟨g,off,none⟩) n c) {i:Nat} {t:Ty} (hi:l[i]? = some t) :
    g < B∧w.cell? ⟨g,off+i * 3,none⟩ = some (.int .u8 t.k)∧w.cell? ⟨g,off+i * 3+1,none⟩ = some (.string t.n)∧w.cell? ⟨g,off+i * 3+2,none⟩ = some (.int .i64 t.z):=by
  obtain⟨hl,rfl⟩:=List.getElem?_eq_some_iff.1 hi
  obtain⟨h1,h2⟩:=h.at hs i hl
  exact⟨h1,h2 0 _ rfl,h2 1 _ rfl,h2 2 _ rfl⟩
theorem fitAll_step (ts:List Ty) (ps:List Fd) (p:Nat) {t:Ty} {f:Fd} (h1:ts[p]? = some t) (h2:ps[p]? = some f):fitAll (ts.drop p) (ps.drop p)=(fitsT t f.t && fitAll (ts.drop (p+1)) (ps.drop (p+1))):=by
  obtain⟨l1,rfl⟩:=List.getElem?_eq_some_iff.1 h1
  obtain⟨l2,rfl⟩:=List.getElem?_eq_some_iff.1 h2
  rw [List.drop_eq_getElem_cons l1,List.drop_eq_getElem_cons l2]
  rfl
theorem call_any (c:Nat) (e:En) (tv:Value) (p:Int) (res:Ty) (ts:List Ty) (s:ByteArray) (va:Value) (w:World) (h:Tk c e tv p res w) (hA:LiesG Ty.cells 3 w w.heap.size va ts) :
    Calls Tryz.prog 116 #[.pointer (some ⟨c,0,none⟩),.string s,va] w (TyE p (callT e s ts) w):=by
  obtain⟨ao,acap,rfl,hal,hag⟩:=hA.form
  obtain⟨n,hn⟩:∃ n,n=ts.length:=⟨_,rfl⟩
  rw [← hn] at hal hag ⊢
  obtain⟨W1,hW1⟩:∃ W1,W1=w.alloc (.cells #[.int .u8 0,.string ⟨#[]⟩,.int .i64 0] 30):=⟨_,rfl⟩
  have hb1:Below w.heap.size w W1:=by rw [hW1];exact below_box w _
  have hz1:W1.heap.size=w.heap.size+1:=by rw [hW1];simp
  have hO:W1.heap[w.heap.size]? = some (.cells #[.int .u8 0,.string ⟨#[]⟩,.int .i64 0] 30 (0,0)):=by rw [hW1];exact (MapKept.heap_alloc _ _).1
  have hlt:=h.lt
  have h1:=h.kept hb1
  obtain⟨K,⟨-,-,q2,-,-,-,-,q7,q8,-,-,-⟩,-,-,-,hmf,-⟩:=h1.cells
  obtain⟨mf,hmf'⟩:∃ m,m=K.mf:=⟨_,rfl⟩
  rw [← hmf'] at q7 hmf
  have H1:=hid h1
  have HMF:=hid hmf
  have HE:=hid h1.ein
  have HB:=hid hb1
  have HO:=hid hO
  have HW:=hid hW1
  have HA:=hid (show LiesG Ty.cells 3 W1 w.heap.size (.slice ao n acap) ts by rw [hn];exact hA.below hb1)
  obtain⟨R,hR⟩:∃ R,R=callT e s ts:=⟨_,rfl⟩
  rw [← hR]
  unfold callT at hR
  have HNN:=hid hn
  clear h h1 hb1 hmf hmf' hO hA hW1 hn
  cases hx:idx s (nnames e.funcs) with
  | none =>
    have HR:=hid (show R = .error 9 by rw [hR,hx])
    have hlk:=look_no2 HMF.out hx W1 rfl
    clear hR hx hag
    go_enter Tryz.func116,Tryz.ntmps116
    rw [HW.out] at q7 hlk
    go_wp2_with fail
    rw [← HW.out]
    refine (tmust_no c p 9 W1 q8).mono ?_;rintro e' w' ⟨rfl,rfl⟩
    exact⟨rfl,TyE.no HR.out HB.out⟩
  | some i =>
    have hil0:=idx_lt hx
    have hil:i < e.funcs.length:=by simpa [nnames] using hil0
    have hlk:=look_at2 HMF.out hx W1 rfl
    obtain⟨f,hff⟩:∃ f,e.funcs[i]? = some f:=⟨_,List.getElem?_eq_getElem hil⟩
    have HR2:=hid (show R=if ts.length ≠ f.params.length then .error 10 else if fitAll ts f.params=true then .ok f.res else .error 10 by rw [hR,hx];simp only [hff] <;> rfl)
    obtain⟨fo,fc,ef,hfl,hfg⟩:=HE.out.flies.form
    obtain⟨g,off,rfl,hg⟩:=hfg (by omega)
    obtain⟨hgl,p0,p1,p2,p3,p4,p5⟩:=fn_at HE.out ef hff
    have hnin:=HE.out.funcs _ (List.mem_of_getElem? hff)
    rw [ef] at q2
    obtain⟨nm,pv,ps,⟨fk,fn,fz⟩,bv,body⟩:=f
    obtain⟨po,pc,ep,hpl,hpg⟩:=hnin.lies.form
    obtain⟨bo,bc,eb,-⟩:=hnin.blies.form
    simp only at p0 p1 p2 p3 p4 p5 ep eb hpl hpg
    have HPL:=hid (show LiesG Fd.cells 4 W1 W1.heap.size pv ps from hnin.lies)
    rw [ep] at p1 HPL
    rw [eb] at p5
    obtain⟨M,hM⟩:∃ M,M=ps.length:=⟨_,rfl⟩
    obtain⟨bl,hbl⟩:∃ M,M=body.length:=⟨_,rfl⟩
    obtain⟨N,hN⟩:∃ N,N=e.funcs.length:=⟨_,rfl⟩
    rw [← hM] at p1 HPL hpl hpg
    rw [← hbl] at p5
    rw [← hN] at q2 hfl
    have hi1:(i:Int) < (N:Int):=by omega
    have hi0:(0:Int)≤(i:Int):=by omega
    have HMM:=hid hM
    obtain⟨W3,hW3⟩:∃ W3,W3=W1.alloc (.cells #[.string nm,.slice po M pc,.int .u8 fk,.string fn,.int .i64 fz,.slice bo bl bc] 33):=⟨_,rfl⟩
    have hb3:Below W1.heap.size W1 W3:=by rw [hW3];exact below_box W1 _
    have hz3:W3.heap.size=w.heap.size+2:=by rw [hW3];simp [hz1]
    have hO3:W3.heap[w.heap.size+1]? = some (.cells #[.string nm,.slice po M pc,.int .u8 fk,.string fn,.int .i64 fz,.slice bo bl bc] 33 (0,0)):=by rw [hW3,← hz1];exact (MapKept.heap_alloc _ _).1
    have HB3:=hid (HB.out.trans (hb3.mono (by omega)))
    have HZ3:=hid ((hb3.block _ (by omega)).trans HO.out)
    have H3:=hid (H1.out.kept hb3)
    have HA3:=hid (HA.out.below (hb3.mono (by omega)))
    have HPL3:=hid (HPL.out.below hb3)
    have HO3:=hid hO3
    have HW3:=hid hW3
    have q8b:W3.cell? ⟨c,8,none⟩ = some (.int .i64 p):=by rw [hb3.cell (p:=⟨c,8,none⟩) (by show c < _;omega)];exact q8
    obtain⟨o0,o1,o2,o3,o4,o5⟩:=own6 hO3
    rw [hW3,← hz1] at o0 o1 o2 o3 o4 o5
    have HR3:=hid (show R=if n ≠ M then .error 10 else if fitAll ts ps=true then .ok ⟨fk,fn,fz⟩ else .error 10 by rw [HR2.out,← HNN.out,← HMM.out])
    clear hR hx hil0 hil hff hfg hnin ef ep eb hM hbl hN hW3 hb3 hO3 HPL HR2
    by_cases hnM:n=M
    rotate_left
    · have HR:=hid (show R = .error 10 by rw [HR3.out,if_pos hnM])
      have hq:((n:Int) == (M:Int))=false:=beq_eq_false_iff_ne.2 (by omega)
      clear hnM
      go_enter Tryz.func116,Tryz.ntmps116
      rw [HW.out] at q7 hlk
      go_wp2_with fail
      rw [← HW.out]
      refine (tmust_yes c 9 W1).mono ?_;rintro e' w' ⟨rfl,rfl⟩
      go_wp2_with fail
      rw [← HW3.out]
      refine (tmust_no c p 10 W3 q8b).mono ?_;rintro e' w' ⟨rfl,rfl⟩
      exact⟨rfl,TyE.no HR.out HB3.out⟩
    have hq:((n:Int) == (M:Int))=true:=beq_iff_eq.2 (by omega)
    have HR4:=hid (show R=if fitAll ts ps=true then .ok ⟨fk,fn,fz⟩ else .error 10 by rw [HR3.out,if_neg (fun q=>q hnM)])
    have HNM:=hid hnM
    clear hnM
    go_enter Tryz.func116,Tryz.ntmps116
    rw [HW.out] at q7 hlk
    go_wp2_with fail
    rw [← HW.out]
    refine (tmust_yes c 9 W1).mono ?_;rintro e' w' ⟨rfl,rfl⟩
    go_wp2_with fail
    rw [← HW3.out]
    refine (tmust_yes c 10 W3).mono ?_;rintro e' w' ⟨rfl,rfl⟩
    clear o0 o1 o2 o3 o4 o5 hlk p0 p1 p2 p3 p4 p5
    have hz1':=hz1
    go_wp2_with fail
    clear hq
    go_loopw [42] (fun q wr=>∃ k:Nat,k≤n∧q = .int .i64 k∧Hid (fitAll ts ps=fitAll (ts.drop k) (ps.drop k))∧Below W3.heap.size W3 wr) (fun q _=>n - (intOf q).toNat)
    case atStart=>exact⟨0,by omega,rfl,hid rfl,Below.refl _ _⟩
    case round =>
      obtain⟨k,hk,rfl,HF,hBr⟩:=hrel
      have hsr:=hBr.size
      by_cases hlt2:k < n
      · obtain⟨ga,oa,rfl,hga⟩:=hag (by omega)
        obtain⟨⟨ak,an,az⟩,hta⟩:∃ t,ts[k]? = some t:=⟨_,List.getElem?_eq_getElem (by rw [← HNN.out];exact hlt2)⟩
        obtain⟨⟨pn,⟨bk,bn,bz⟩⟩,hpa⟩:∃ t,ps[k]? = some t:=⟨_,List.getElem?_eq_getElem (by rw [← HMM.out,← HNM.out];exact hlt2)⟩
        have hkM:k < M:=by rw [← HNM.out];exact hlt2
        obtain⟨gp,op,rfl,hgp⟩:=hpg (by omega)
        obtain⟨-,t0,t1,t2⟩:=ty_at (HA3.out.below (hBr.mono (by omega))) rfl hta
        obtain⟨hgp2,u0,u1,u2,u3⟩:=st_field2 (HPL3.out.below (hBr.mono (by omega))) rfl hpa
        have hstep:=fitAll_step ts ps k hta hpa
        simp only at t0 t1 t2 u0 u1 u2 u3 hstep
        obtain⟨o0,o1,o2,o3,o4,o5⟩:=own6 ((hBr.block _ (by omega)).trans HO3.out)
        have hi2:(k:Int) < (M:Int):=by omega
        have hi3:(0:Int)≤(k:Int):=by omega
        have hi4:(k:Int) < (n:Int):=by omega
        obtain⟨W5,hW5⟩:∃ W5,W5=wr.alloc (.cells #[.int .u8 ak,.string an,.int .i64 az] 30):=⟨_,rfl⟩
        have hb5:Below wr.heap.size wr W5:=by rw [hW5];exact below_box wr _
        have hz5:W5.heap.size=wr.heap.size+1:=by rw [hW5];simp
        have hO5:W5.heap[wr.heap.size]? = some (.cells #[.int .u8 ak,.string an,.int .i64 az] 30 (0,0)):=by rw [hW5];exact (MapKept.heap_alloc _ _).1
        obtain⟨v0,v1,v2⟩:=own3 hO5
        have y1:W5.cell? ⟨w.heap.size+1,1,none⟩ = some (.slice (some ⟨gp,op,none⟩) M pc):=by rw [hb5.cell (p:=⟨_,1,none⟩) (by show w.heap.size+1 < _;omega)];exact o1
        have u1b:W5.cell? ⟨gp,op+k * 4+1,none⟩ = some (.int .u8 bk):=by rw [hb5.cell (p:=⟨gp,_,none⟩) (by show gp < _;omega)];exact u1
        have u2b:W5.cell? ⟨gp,op+k * 4+2,none⟩ = some (.string bn):=by rw [hb5.cell (p:=⟨gp,_,none⟩) (by show gp < _;omega)];exact u2
        have u3b:W5.cell? ⟨gp,op+k * 4+3,none⟩ = some (.int .i64 bz):=by rw [hb5.cell (p:=⟨gp,_,none⟩) (by show gp < _;omega)];exact u3
        have u2c:W5.cell? ⟨gp,op+k * 4+1+1,none⟩ = some (.string bn):=u2b
        have u3c:W5.cell? ⟨gp,op+k * 4+1+2,none⟩ = some (.int .i64 bz):=u3b
        have HB5:=hid (hBr.trans (hb5.mono hsr))
        have HFT:=hid (fit_any c e tv p res ⟨ak,an,az⟩ ⟨bk,bn,bz⟩ W5.drew (((H3.out.kept hBr).kept hb5).drew))
        have HW5:=hid hW5
        have HST:=hid hstep
        have hgal:ga < wr.heap.size:=by omega
        have hgpl:gp < wr.heap.size+1:=by omega
        have hlt6:wr.heap.size < wr.heap.size+1:=by omega
        clear hta hpa hb5 hW5 hBr hO5 hstep o0 o2 o3 o4 o5
        go_wp2_with fail
        rw [← HW5.out]
        refine wp_region_held_drew (S:=SameTo (wr.heap.size+1) W5) (by kernel_rfl) (SameTo.drew _ _) (fun hSw=>?_)
        refine wt (i:=0) (oi:={ dst:=some 47,op:=Op.move (Operand.tmp 0),type:=73,pos := "exprs.go:93", after:=#[],guard:=none }) (v:=.pointer (some ⟨c,0,none⟩)) (fun W hW=>?_) hSw ?_
        · first|(go_simp;done)|rfl
        try simp only [Act.put,q1,q3]
        refine wt (i:=1) (oi:={ dst:=some 48,op:=Op.load 30 (Operand.tmp 11),type:=30,pos := "exprs.go:93", after:=#[],guard:=none }) (v:=.agg #[.int .u8 ak,.string an,.int .i64 az]) (fun W hW=>?_) hSw ?_
        · have v0:=hW.cell (by dsimp only;omega) v0
          have v1:=hW.cell (by dsimp only;omega) v1
          have v2:=hW.cell (by dsimp only;omega) v2
          first|(go_simp;done)|rfl
        try simp only [Act.put,q1,q3]
        refine wt (i:=2) (oi:={ dst:=some 49,op:=Op.fieldAddr 33 (Operand.tmp 9) 1,type:=0,pos := "exprs.go:93", after:=#[],guard:=none }) (v:=.pointer (some ⟨w.heap.size+1,1,none⟩)) (fun W hW=>?_) hSw ?_
        · first|(go_simp;done)|rfl
        try simp only [Act.put,q1,q3]
        refine wt (i:=3) (oi:={ dst:=some 50,op:=Op.load 23 (Operand.tmp 49),type:=23,pos := "exprs.go:93", after:=#[gd 2],guard:=none }) (v:=.slice (some ⟨gp,op,none⟩) M pc) (fun W hW=>?_) hSw ?_
        · have y1:=hW.cell (by dsimp only;omega) y1
          first|(go_simp;done)|rfl
        try simp only [Act.put,q1,q3]
        refine wt (i:=4) (oi:={ dst:=some 51,op:=Op.move (Operand.tmp 10),type:=3,pos := "exprs.go:93", after:=#[],guard:=none }) (v:=.int .i64 (k:Int)) (fun W hW=>?_) hSw ?_
        · first|(go_simp;done)|rfl
        try simp only [Act.put,q1,q3]
        refine wt (i:=5) (oi:={ dst:=some 52,op:=Op.indexAddr 23 (Operand.tmp 50) (Operand.tmp 51),type:=0,pos := "exprs.go:93", after:=#[gd 3,gd 4],guard:=none }) (v:=.pointer (some ⟨gp,op+k * 4,none⟩)) (fun W hW=>?_) hSw ?_
        · first|(go_simp;done)|rfl
        try simp only [Act.put,q1,q3]
        refine wt (i:=6) (oi:={ dst:=some 53,op:=Op.fieldAddr 57 (Operand.tmp 52) 1,type:=0,pos := "exprs.go:93", after:=#[gd 5],guard:=none }) (v:=.pointer (some ⟨gp,op+k * 4+1,none⟩)) (fun W hW=>?_) hSw ?_
        · first|(go_simp;done)|rfl
        try simp only [Act.put,q1,q3]
        refine wt (i:=7) (oi:={ dst:=some 54,op:=Op.load 30 (Operand.tmp 53),type:=30,pos := "exprs.go:93", after:=#[gd 6],guard:=none }) (v:=.agg #[.int .u8 bk,.string bn,.int .i64 bz]) (fun W hW=>?_) hSw ?_
        · have u1b:=hW.cell (by dsimp only;omega) u1b
          have u2c:=hW.cell (by dsimp only;omega) u2c
          have u3c:=hW.cell (by dsimp only;omega) u3c
          first|(go_simp;done)|rfl
        try simp only [Act.put,q1,q3]
        refine wpAnyH_ready (rs:=[8]) (by kernel_rfl) (by simp) ?_
        refine AllReadyH.cons (o:={ dst:=some 55,op:=Op.call { callee:=Callee.value (Operand.func 99),args:=#[Operand.tmp 47,Operand.tmp 48,Operand.tmp 54],argTypes:=#[73,30,30] },type:=0,pos := "exprs.go:93", after:=#[gd 0,gd 1,gd 7],guard:=none }) rfl (fun K hK=>?_) AllReadyH.nil
        rw [if_pos (by rfl)]
        clear hSw
        go_simp
        refine HFT.out.mono ?_;rintro e' w6 ⟨he,hb6⟩
        replace hb6:Below W5.heap.size W5 w6:=below_tape hb6
        have HB6:=hid (HB5.out.trans (hb6.mono (by omega)))
        cases hft:fitsT ⟨ak,an,az⟩ ⟨bk,bn,bz⟩ with
        | false =>
          have HR:=hid (show R = .error 10 by rw [HR4.out,HF.out,HST.out,hft];rfl)
          rw [hft,if_neg (by decide),askE_no (by decide)] at he
          subst he
          exact⟨rfl,TyE.no HR.out (HB3.out.trans (HB6.out.mono (by omega)))⟩
        | true =>
          have HF2:=hid (show fitAll ts ps=fitAll (ts.drop (k+1)) (ps.drop (k+1)) by rw [HF.out,HST.out,hft];rfl)
          rw [hft,if_pos rfl,askE_0 rfl] at he
          subst he
          refine hK.out _ _ ((SameTo.drew _ _).trans (SameTo.of (show Below (wr.heap.size+1) W5.drew w6 from ⟨hb6.os,hb6.tape,hb6.output,hb6.size,fun j hj=>hb6.block j (by omega)⟩))) (fun hSw=>?_)
          clear hK K
          try simp only [Act.put,q1,q2,q3]
          refine wpAnyH_done (by kernel_rfl) ?_ _
          clear hb6 hSw v0 v1 v2 y1 u1b u2b u3b u2c u3c t0 t1 t2 u0 u1 u2 u3 hft
          go_wp2_with fail
          go_roundw
          case rel=>exact⟨k+1,by omega,by go_num,HF2,HB6.out⟩
          case measure=>simp [intOf];omega
      · have HR:=hid (show R = .ok ⟨fk,fn,fz⟩ by
          rw [HR4.out,HF.out,List.drop_eq_nil_of_le (by rw [← HNN.out];omega)]
          exact if_pos (by cases (ps.drop k) <;> rfl))
        obtain⟨o0,o1,o2,o3,o4,o5⟩:=own6 ((hBr.block _ (by omega)).trans HO3.out)
        have HZ6:=hid ((hBr.block _ (by omega)).trans HZ3.out)
        have HB6:=hid (HB3.out.trans (hBr.mono (by omega)))
        clear hBr HF
        go_wp2_with (refine wpList_put rfl 30 (Operand.tmp 6) (Operand.tmp 58) rfl (w.heap.size) 30 _ #[.int .u8 fk,.string fn,.int .i64 fz] rfl rfl HZ6.out rfl (by kernel_rfl) (by simp [Value.oneCell']) ?_)
        intro w6 hp6
        have HP6:=hid hp6
        clear hp6
        go_wp2_with fail
        refine bodyPost_ret (v:=.agg #[.int .u8 fk,.string fn,.int .i64 fz]) (results_cell_row rfl _ _ (w.heap.size) 30 _ (0,0) _ rfl HP6.out.at_b Tryz.underlying30 rfl (by kernel_rfl)) rfl ?_
        exact TyE.ok (t:=⟨fk,fn,fz⟩) HR.out (HP6.out.below HB6.out (by omega))
end Go.Proofs.YtdhieihcmnpneaaGreatDoor
