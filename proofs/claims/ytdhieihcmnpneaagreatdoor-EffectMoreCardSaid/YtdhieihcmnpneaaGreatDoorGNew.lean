/- A region that draws its order, whose loads are taken first under a condition on the world that need hold only till its last operations begin. Nothing here speaks of the program. -/
import Derived.Test.YtdhieihcmnpneaaGreatDoorRows
import Derived.Test.YtdhieihcmnpneaaGreatDoorTypWt
import Derived.Test.YtdhieihcmnpneaaGreatDoorGTop
import Derived.Test.YtdhieihcmnpneaaGreatDoorGStm
namespace Go.Proofs.YtdhieihcmnpneaaGreatDoor
open Lib (hid)
set_option maxHeartbeats 4000000
open Go Go.RowKit
section
variable {P:Program} {ops:Array Oper} {Q:Exit→Act→World→Prop} {md:Region.Mode} {S:World→Prop} {late:Nat→Bool}
def wpAnyL (P:Program) (md:Region.Mode) (ops:Array Oper) (Q:Exit→Act→World→Prop) (S:World→Prop) (late:Nat→Bool):Nat→Array Bool→Act→World→Prop
  | 0,listed,a,w=>Region.ready md ops listed = [] ∧ Q .normal a w
  | fuel+1,listed,a,w =>
    (Region.ready md ops listed = [] → Q .normal a w) ∧
    ∀ i ∈ Region.ready md ops listed,wpOp P ops Q i (fun a' w'=>if late i=true then wpAny P md ops Q fuel (listed.setIfInBounds i true) a' w' else S w'∧wpAnyL P md ops Q S late fuel (listed.setIfInBounds i true) a' w') a w
theorem wpAny_of_late:∀ (fuel:Nat) (listed:Array Bool) (a:Act) (w:World),wpAnyL P md ops Q S late fuel listed a w→wpAny P md ops Q fuel listed a w
  | 0,_,_,_,h=>h
  | fuel+1,_,_,_,h=>⟨h.1,fun i hi=>wpOp_mono (fun a' w' h'=>by
      split at h'
      · exact h'
      · exact wpAny_of_late fuel _ a' w' h'.2) (h.2 i hi)⟩
theorem wpAnyL_first {i:Nat} {oi:Oper} {v:Value} (hi:ops[i]? = some oi) (hsel:∀ (j:Nat) (o:Oper) cs b,ops[j]? = some o→o.op ≠ .select cs b)
    (hQ:∀ c a w,Q (.panic c) (a.put oi.dst v) w→Q (.panic c) a w) (hil:late i=false) (hlate:∀ j oj,ops[j]? = some oj→late j=true→∃ e ∈ oj.after,Region.binds md e=true∧e.on=i) :
    ∀ (fuel:Nat) (listed:Array Bool) (a:Act) (w:World),
      (∀ j oj,ops[j]? = some oj→j ≠ i→listed.getD j true=false→(∀ e ∈ oj.after,Region.binds md e=true→e.on ≠ i)→oi.apart ops oj=true) →
      i ∈ Region.ready md ops listed→YieldsIf P ops S oi v a→S w →
      wpAnyL P md ops Q S late fuel (listed.setIfInBounds i true) (a.put oi.dst v) w→wpAnyL P md ops Q S late (fuel+1) listed a w:=by
  intro fuel
  induction fuel with
  | zero =>
    intro listed a w _ hr hy hS H
    refine⟨fun h=>(by rw [h] at hr;cases hr),fun j hj=>?_⟩
    by_cases hji:j=i
    · subst hji;exact hy.wpOp hi hS (by rw [hil];exact⟨hS,H⟩)
    · have:=ready_mono hj hji
      rw [H.1] at this
      cases this
  | succ fuel ih =>
    intro listed a w hfree hr hy hS H
    refine⟨fun h=>(by rw [h] at hr;cases hr),fun j hj=>?_⟩
    by_cases hji:j=i
    · subst hji;exact hy.wpOp hi hS (by rw [hil];exact⟨hS,H⟩)
    · have h1:=H.2 j (ready_mono hj hji)
      obtain⟨hjun,oj,hoj,hall⟩:=mem_ready.1 hj
      have hnot:∀ e ∈ oj.after,Region.binds md e=true→e.on ≠ i:=fun e he hb heq=>by
        have h1:=hall e he hb
        have h0:=(mem_ready.1 hr).1
        rw [heq] at h1
        rcases Nat.lt_or_ge i listed.size with h'|h'
        · simp [h'] at h0 h1;rw [h0] at h1;cases h1
        · simp [Array.getElem?_eq_none h'] at h1
      have hjl:late j=false:=by
        cases hl:late j with
        | false=>rfl
        | true =>
          obtain⟨e,he,hb,heq⟩:=hlate j oj hoj hl
          exact absurd heq (hnot e he hb)
      rw [hjl] at h1 ⊢
      have h2:=wpOp_putIf hoj (hfree j oj hoj hji hjun hnot) (fun cs b=>hsel i oi cs b hi) (fun cs b=>hsel j oj cs b hoj) hQ hy h1
      have hfree':∀ k ok,ops[k]? = some ok→k ≠ i→(listed.setIfInBounds j true).getD k true=false →
          (∀ e ∈ ok.after,Region.binds md e=true→e.on ≠ i)→oi.apart ops ok=true:=fun k ok hk hki hun hno=>by
        refine hfree k ok hk hki ?_ hno
        by_cases hjk:j=k
        · subst hjk;exact hjun
        · rw [getD_set_ne true hjk] at hun;exact hun
      refine wpOp_mono (fun a' w' h3=>?_) h2
      refine⟨h3.2.1,ih (listed.setIfInBounds j true) a' w' hfree' (ready_mono hr (Ne.symm hji)) h3.1 h3.2.1 ?_⟩
      rw [Array.setIfInBounds_comm _ _ hji]
      exact h3.2.2
def waits (md:Region.Mode) (ops:Array Oper) (late:Nat→Bool) (i:Nat):Bool:=(List.range ops.size).all fun j=>!late j || (match ops[j]? with|some oj=>oj.after.any fun e=>Region.binds md e && e.on == i|none=>true)
theorem waits_spec {i:Nat} (h:waits md ops late i=true):∀ j oj,ops[j]? = some oj→late j=true→∃ e ∈ oj.after,Region.binds md e=true∧e.on=i:=by
  intro j oj hoj hl
  have hj:j < ops.size:=(Array.getElem?_eq_some_iff.1 hoj).1
  have:=List.all_eq_true.1 h j (List.mem_range.2 hj)
  rw [hl,hoj] at this
  simp only [Bool.not_true,Bool.false_or] at this
  obtain⟨e,he,hb⟩:=Array.any_eq_true'.1 this
  simp only [Bool.and_eq_true,beq_iff_eq] at hb
  exact⟨e,he,hb⟩
theorem wpAnyL_take {i:Nat} {oi:Oper} {v:Value} {fuel:Nat} {listed:Array Bool} {a:Act} {w:World} (hi:ops[i]? = some oi)
    (hs:Region.noSelect ops=true) (hf:Region.free md ops listed i=true) (hr:(Region.ready md ops listed).contains i=true) (hil:late i=false) (hlw:waits md ops late i=true)
    (hQ:∀ c a w,Q (.panic c) (a.put oi.dst v) w→Q (.panic c) a w) (hy:YieldsIf P ops S oi v a) (hS:S w)
    (h:wpAnyL P md ops Q S late fuel (listed.setIfInBounds i true) (a.put oi.dst v) w):wpAnyL P md ops Q S late (fuel+1) listed a w:=
  wpAnyL_first hi (Region.noSelect_spec hs) hQ hil (waits_spec hlw) fuel listed a w (Region.free_spec hi hf) (by simpa using hr) hy hS h
def AllReadyL (P:Program) (md:Region.Mode) (ops:Array Oper) (Q:Exit→Act→World→Prop) (S:World→Prop) (late:Nat→Bool) (fuel:Nat) (listed:Array Bool) (a:Act) (w:World) (rs:List Nat):Prop:=
  ∀ i ∈ rs,wpOp P ops Q i (fun a' w'=>if late i=true then wpAny P md ops Q fuel (listed.setIfInBounds i true) a' w' else S w'∧wpAnyL P md ops Q S late fuel (listed.setIfInBounds i true) a' w') a w
theorem AllReadyL.nil {fuel:Nat} {listed:Array Bool} {a:Act} {w:World}:AllReadyL P md ops Q S late fuel listed a w []:=fun _ h=>by cases h
theorem AllReadyL.cons {fuel:Nat} {listed:Array Bool} {a:Act} {w:World} {i:Nat} {o:Oper} {rs:List Nat} (ho:ops[i]? = some o) (hl:late i=false)
    (h:∀ K':Act→World→Prop,Shut (∀ a w,S w→(S w→wpAnyL P md ops Q S late fuel (listed.setIfInBounds i true) a w)→K' a w)→if Region.wanted o (yielded ops a.tmps)=true then Oper.wp P o a w K' Q else K' (a.put o.dst undef) w)
    (hs:AllReadyL P md ops Q S late fuel listed a w rs):AllReadyL P md ops Q S late fuel listed a w (i :: rs):=fun j hj=>by
  rcases List.mem_cons.1 hj with rfl|hj
  · rw [hl]
    exact wpOp_step ho (fun K' hK=>h K' (fun a w hS hW=>hK a w ⟨hS,hW hS⟩))
  · exact hs j hj
theorem wpAnyL_ready {rs:List Nat} {fuel:Nat} {listed:Array Bool} {a:Act} {w:World} (hr:Region.ready md ops listed=rs) (hne:rs ≠ [])
    (h:AllReadyL P md ops Q S late fuel listed a w rs):wpAnyL P md ops Q S late (fuel+1) listed a w:=
  ⟨fun h0=>absurd (hr ▸ h0) hne,hr ▸ h⟩
theorem wpAnyL_only {rs:List Nat} {fuel:Nat} {listed:Array Bool} {a:Act} {w:World} (hr:Region.ready md ops listed=rs) (hne:rs ≠ []) (hl:rs.all late=true)
    (h:wpAny P md ops Q (fuel+1) listed a w):wpAnyL P md ops Q S late (fuel+1) listed a w:=by
  refine⟨fun h0=>absurd (hr ▸ h0) hne,fun i hi=>?_⟩
  have hli:late i=true:=List.all_eq_true.1 hl i (by rw [← hr];exact hi)
  have:=h.2 i hi
  rw [hli]
  exact this
theorem wpAny_one {i:Nat} {o:Oper} {fuel:Nat} {listed:Array Bool} {a:Act} {w:World} (hr:Region.ready md ops listed = [i]) (ho:ops[i]? = some o)
    (h:∀ K':Act→World→Prop,Shut (∀ a w,wpAny P md ops Q fuel (listed.setIfInBounds i true) a w→K' a w)→if Region.wanted o (yielded ops a.tmps)=true then Oper.wp P o a w K' Q else K' (a.put o.dst undef) w):wpAny P md ops Q (fuel+1) listed a w:=
  wpAny_ready hr (by simp) (AllReady.cons ho h AllReady.nil)
theorem wp_region_late {id:Nat} {a:Act} {w:World} (late:Nat→Bool) (hm:P.follows .mixedOrders=true) (hS:S w.drew)
    (h:S w.drew→wpAnyL P .any ops Q S late ops.size (Array.replicate ops.size false) a w.drew):(Code.region id ops true).wp P Q a w:=
  wp_region_any hm (wpAny_of_late _ _ _ _ (h hS))
end
end Go.Proofs.YtdhieihcmnpneaaGreatDoor
/- How the types layer makes a checker. -/
namespace Go.Proofs.YtdhieihcmnpneaaGreatDoor
open Lib (hid)
set_option maxHeartbeats 4000000
set_option maxRecDepth 100000
open Go.RowKit
attribute [local go_sem ↓] Go.wp_at_zero Go.wp_at_succ
theorem infoNm:(Tryz.prog.info? 104).map (fun i=>(i.zero,i.size,i.bytes))=some (some (.map none),1,8):=by kernel_rfl
structure Nw (c:Nat) (e:En) (tv:Value) (m1 m2 m3:Nat) (ao:Option Addr) (cap:Nat) (ms:List Nat) (w:World):Prop where
  cell:w.heap[c]? = some (.cells #[e.rv,e.sv,e.fv,tv,.map (some m1),.slice ao ms.length cap,.map (some m2),.map (some m3),.int .i64 (-1),.int .u8 0,.string ⟨#[]⟩,.int .i64 0] 112 (0,0))
  row:w.ownsRow (c+1) 104 1 (.slice ao ms.length cap) ms.length (ms.map fun m=>.map (some m))
  n1:IsNm w m1 (rnames e.records)
  n2:IsNm w m2 (fnames e.shared)
  n3:IsNm w m3 (nnames e.funcs)
  ns:∀ (i m:Nat) (r:Rc),ms[i]? = some m→e.records[i]? = some r→IsNm w m (fnames r.fields)
def Sc (c z:Nat) (u v:Value) (W:World):Prop:=W.cell? ⟨c,5,none⟩ = some u∧W.cell? ⟨z,1,none⟩ = some v
theorem Sc.below {c z:Nat} {u v:Value} {w W:World} (hb:Below w.heap.size w W) (h:Sc c z u v w) (hc:c < w.heap.size) (hz:z < w.heap.size):Sc c z u v W:=
  ⟨(hb.cell (p:=⟨c,5,none⟩) hc).trans h.1,(hb.cell (p:=⟨z,1,none⟩) hz).trans h.2⟩
theorem own_no {w:World} {base:Nat} {E:TypeId} {k n m:Nat} {v:Value} {xs:List Value} {l:List ByteArray} (h:w.ownsRow base E k v n xs) (hm:IsNm w m l):v.ownBlock ≠ some m:=by
  rcases h.2 with ⟨rfl,_⟩|⟨g,cap,cur,rfl,_,hg,_⟩
  · simp [Value.ownBlock]
  · intro e
    exact hm.ne hg (by simpa [Value.ownBlock] using e.symm)
theorem Nw.kept {c:Nat} {e:En} {tv:Value} {m1 m2 m3:Nat} {ao:Option Addr} {cap:Nat} {ms:List Nat} {w w':World} (h:Nw c e tv m1 m2 m3 ao cap ms w) (hb:Below w.heap.size w w'):Nw c e tv m1 m2 m3 ao cap ms w':=
  ⟨(hb.block c (Array.getElem?_eq_some_iff.1 h.cell).1).trans h.cell,own_new h.row hb,h.n1.of (hb.block _ h.n1.lt),h.n2.of (hb.block _ h.n2.lt),h.n3.of (hb.block _ h.n3.lt),fun i m r hm hr=>(h.ns i m r hm hr).of (hb.block _ (h.ns i m r hm hr).lt)⟩
theorem Nw.step {c:Nat} {e:En} {tv:Value} {m1 m2 m3:Nat} {ao ao':Option Addr} {cap cap' m:Nat} {r:Rc} {ms:List Nat} {w w':World} (h:Nw c e tv m1 m2 m3 ao cap ms w) (hm:IsNm w m (fnames r.fields)) (hr:e.records[ms.length]? = some r)
    (hg:w.grownBy w' (Value.ownBlock (.slice ao ms.length cap))) (ho:w'.ownsRow (c+1) 104 1 (.slice ao' (ms.length+1) cap') (ms.length+1) ((ms.map fun m=>Value.map (some m)) ++ [.map (some m)])) :
    Nw c e tv m1 m2 m3 ao' cap' (ms ++ [m]) (w'.setCell ⟨c,5,none⟩ (.slice ao' (ms.length+1) cap')):=by
  have hcw:c < w.heap.size:=(Array.getElem?_eq_some_iff.1 h.cell).1
  have hnc:Value.ownBlock (.slice ao ms.length cap) ≠ some c:=by
    rcases h.row.2 with ⟨e,_⟩|⟨g,cap,cur,e,h2,_⟩
    · rw [e];simp [Value.ownBlock]
    · rw [e];simp [Value.ownBlock];omega
  have hc':=(hg.block c hcw (fun e=>hnc e.symm)).trans h.cell
  have hnm:∀ {m:Nat} {l:List ByteArray},IsNm w m l→IsNm (w'.setCell ⟨c,5,none⟩ (.slice ao' (ms.length+1) cap')) m l:=fun {m l} hm =>
    hm.of ((Below.heap_setCell _ _ _ _ (by show m ≠ c;exact hm.ne h.cell)).trans (hg.block m hm.lt (fun e=>own_no h.row hm e.symm)))
  refine⟨?_, ?_,hnm h.n1,hnm h.n2,hnm h.n3,fun i j q hj hq=>?_⟩
  · simp [World.setCell,Array.getElem?_modify,hc']
  · rw [List.length_append,List.map_append]
    refine own_kept ho fun g hg2=>Below.heap_setCell _ _ _ _ ?_
    have:=(ho.lt g hg2).1
    show g ≠ c
    omega
  · by_cases hi:i < ms.length
    · rw [List.getElem?_append_left hi] at hj
      exact hnm (h.ns i j q hj hq)
    · rw [List.getElem?_append_right (by omega)] at hj
      have hi0:i=ms.length:=by
        have:=(List.getElem?_eq_some_iff.1 hj).1
        simp at this
        omega
      subst hi0
      simp at hj
      subst hj
      rw [hr] at hq
      cases hq
      exact hnm hm
theorem Nw.tk {c:Nat} {e:En} {tv:Value} {m1 m2 m3:Nat} {ao:Option Addr} {cap:Nat} {ms:List Nat} {w:World} (h:Nw c e tv m1 m2 m3 ao cap ms w) (hE:EIn w w.heap.size e) (hl:ms.length=e.records.length) (hs:ms.length≤1000000):Tk c e tv (-1) noT w:=by
  have key:∃ g,(0 < ms.length→ao=some ⟨g,0,none⟩ ∧ g < w.heap.size∧g ≠ c)∧∀ i m,ms[i]? = some m→w.cell? ⟨g,i,none⟩ = some (.map (some m)):=by
    rcases h.row.2 with ⟨_,hn⟩|⟨g,cap2,cur,e2,h2,h3,h4,h5,h6,h7⟩
    · exact⟨0,fun h0=>by omega,fun i m hm=>by have:=(List.getElem?_eq_some_iff.1 hm).1;omega⟩
    · cases e2
      refine⟨g,fun _=>⟨rfl,(Array.getElem?_eq_some_iff.1 h3).1,by omega⟩,fun i m hm=>?_⟩
      rw [Lib.cell_of_heap h3]
      have hi:i < ms.length:=(List.getElem?_eq_some_iff.1 hm).1
      have:=congrArg (fun l=>l[i]?) h7
      simp only [List.getElem?_map,hm,Option.map_some,Nat.mul_one] at this
      rw [List.getElem?_take_of_lt hi,Array.getElem?_toList] at this
      exact this
  obtain⟨g,hg1,hg2⟩:=key
  refine⟨hE,⟨g,ms.length,cap,ao,m1,m2,m3⟩,h.cell,h.n1,h.n2,h.n3,hl,by show ms.length≤_;omega,hg1,fun i r hr=>?_⟩
  have hi:i < ms.length:=by rw [hl];exact (List.getElem?_eq_some_iff.1 hr).1
  have hm:ms[i]? = some ms[i]:=List.getElem?_eq_getElem hi
  exact⟨ms[i],hg2 i _ hm,h.ns i _ r hm hr,(h.ns i _ r hm hr).ne h.cell⟩
theorem tnewck_any (P:Pr) (hL:P.e.records.length≤1000000):NewCk P:=by
  intro B w hI hBw
  obtain⟨e,he⟩:∃ e,e=P.e:=⟨_,rfl⟩
  obtain⟨tv,htv⟩:∃ tv,tv=P.tv:=⟨_,rfl⟩
  have hEI:=hI.e
  rw [← he] at hEI hL ⊢
  rw [← htv]
  clear hI he htv
  obtain⟨W0,hW0⟩:∃ W0,W0=w.alloc (.cells #[e.rv,e.sv,e.fv,tv] 27):=⟨_,rfl⟩
  have hB0:Below w.heap.size w W0:=by rw [hW0];exact below_box w _
  have hO:W0.heap[w.heap.size]? = some (.cells #[e.rv,e.sv,e.fv,tv] 27 (0,0)):=by rw [hW0];exact (MapKept.heap_alloc _ _).1
  have hlt0:w.heap.size < W0.heap.size:=by rw [hW0];simp
  have HE:=hid (hEI.keeps (hB0.mono hBw))
  obtain⟨q0,q1,q2,q3⟩:=cells_prog _ _ _ _ hO
  obtain⟨ro,rc,er,hrl,hrg⟩:=hEI.rlies.form
  obtain⟨N,hN⟩:∃ N,N=e.records.length:=⟨_,rfl⟩
  rw [← hN] at hL hrl hrg er
  have HN:=hid hN
  have HG:=hid hrg
  have HER:=hid er
  have HEI:=hid hEI
  have HB0:=hid hB0
  have HO:=hid hO
  have HW0:=hid hW0
  obtain⟨i0,hi,hz0,hz1',hz2⟩:=info_parts infoNm
  have HINF:=hid (And.intro hi (And.intro hz0 (And.intro hz1' hz2)))
  clear hEI hB0 hO hN hrg er hW0 hi hz0 hz1' hz2
  go_enter Tryz.func26,Tryz.ntmps26
  go_wp2_with fail
  rw [← HW0.out]
  refine wp_region_held_drew (S:=SameTo (W0.heap.size) W0) (by kernel_rfl) (SameTo.drew _ _) (fun hSw=>?_)
  refine wt (i:=0) (oi:={ dst:=some 6,op:=Op.load 27 (Operand.tmp 1),type:=27,pos := "check.go:44", after:=#[],guard:=none }) (v:=.agg #[e.rv,e.sv,e.fv,tv]) (fun W hW=>?_) hSw ?_
  · have q0:=hW.cell (by dsimp only;omega) q0
    have q1:=hW.cell (by dsimp only;omega) q1
    have q2:=hW.cell (by dsimp only;omega) q2
    have q3:=hW.cell (by dsimp only;omega) q3
    first|(go_simp;done)|rfl
  try simp only [Act.put]
  refine wt (i:=1) (oi:={ dst:=some 7,op:=Op.fieldAddr 27 (Operand.tmp 1) 0,type:=0,pos := "check.go:44", after:=#[],guard:=none }) (v:=.pointer (some ⟨w.heap.size,0,none⟩)) (fun W hW=>?_) hSw ?_
  · first|(go_simp;done)|rfl
  try simp only [Act.put]
  refine wt (i:=2) (oi:={ dst:=some 8,op:=Op.load 22 (Operand.tmp 7),type:=22,pos := "check.go:44", after:=#[gd 1],guard:=none }) (v:=e.rv) (fun W hW=>?_) hSw ?_
  · have q0:=hW.cell (by dsimp only;omega) q0
    first|(go_simp;done)|rfl
  try simp only [Act.put]
  refine wt (i:=4) (oi:={ dst:=some 10,op:=Op.fieldAddr 27 (Operand.tmp 1) 1,type:=0,pos := "check.go:44", after:=#[],guard:=none }) (v:=.pointer (some ⟨w.heap.size,1,none⟩)) (fun W hW=>?_) hSw ?_
  · first|(go_simp;done)|rfl
  try simp only [Act.put]
  refine wt (i:=5) (oi:={ dst:=some 11,op:=Op.load 23 (Operand.tmp 10),type:=23,pos := "check.go:44", after:=#[gd 4],guard:=none }) (v:=e.sv) (fun W hW=>?_) hSw ?_
  · have q1:=hW.cell (by dsimp only;omega) q1
    first|(go_simp;done)|rfl
  try simp only [Act.put]
  refine wt (i:=7) (oi:={ dst:=some 13,op:=Op.fieldAddr 27 (Operand.tmp 1) 2,type:=0,pos := "check.go:44", after:=#[],guard:=none }) (v:=.pointer (some ⟨w.heap.size,2,none⟩)) (fun W hW=>?_) hSw ?_
  · first|(go_simp;done)|rfl
  try simp only [Act.put]
  refine wt (i:=8) (oi:={ dst:=some 14,op:=Op.load 24 (Operand.tmp 13),type:=24,pos := "check.go:44", after:=#[gd 7],guard:=none }) (v:=e.fv) (fun W hW=>?_) hSw ?_
  · have q2:=hW.cell (by dsimp only;omega) q2
    first|(go_simp;done)|rfl
  try simp only [Act.put]
  refine wpAnyH_ready (rs:=[3]) (by kernel_rfl) (by simp) ?_
  refine AllReadyH.cons (o:={ dst:=some 9,op:=Op.call { callee:=Callee.value (Operand.func 47),args:=#[Operand.tmp 8,Operand.func 48],argTypes:=#[22,106] },type:=104,pos := "check.go:46", after:=#[gd 2],guard:=none }) rfl (fun K hK=>?_) AllReadyH.nil
  rw [if_pos (by rfl)]
  clear hSw
  go_simp
  refine (names_rec e.records B e.rv W0.drew (HE.out.rlies) (by show B≤W0.heap.size;omega) (EIn.keeps HE.out (w':=W0.drew) (Below.refl _ _).drew).records).mono ?_;rintro e1 w1 ⟨m1,rfl,hm1,hn1,hb1⟩
  replace hb1:Below W0.heap.size W0 w1:=(Below.refl _ _).drew.trans hb1
  have hz1:=hb1.size
  have hE1:EIn w1 B e:=EIn.keeps HE.out (hb1.mono (by omega))
  refine hK.out _ _ (SameTo.of hb1) (fun hSw=>?_)
  clear hK K
  try simp only [Act.put,q1,q2,q3]
  refine wpAnyH_ready (rs:=[6]) (by kernel_rfl) (by simp) ?_
  refine AllReadyH.cons (o:={ dst:=some 12,op:=Op.call { callee:=Callee.value (Operand.func 49),args:=#[Operand.tmp 11],argTypes:=#[23] },type:=104,pos := "check.go:47", after:=#[gd 5,gc 3],guard:=none }) rfl (fun K hK=>?_) AllReadyH.nil
  rw [if_pos (by rfl)]
  clear hSw
  go_simp
  refine (names_fields e.shared B e.sv w1 hE1.slies (by omega)).mono ?_;rintro e1 w2 ⟨m2,rfl,hm2,hn2,hb2⟩
  have hz2:=hb2.size
  have hb2':=hb1.trans (hb2.mono hz1)
  have hE2:EIn w2 B e:=EIn.keeps HE.out (hb2'.mono (by omega))
  replace hn1:=hn1.of (hb2.block _ hn1.lt)
  refine hK.out _ _ (SameTo.of hb2') (fun hSw=>?_)
  clear hK K
  try simp only [Act.put,q1,q2,q3]
  refine wpAnyH_ready (rs:=[9]) (by kernel_rfl) (by simp) ?_
  refine AllReadyH.cons (o:={ dst:=some 15,op:=Op.call { callee:=Callee.value (Operand.func 50),args:=#[Operand.tmp 14,Operand.func 51],argTypes:=#[24,109] },type:=104,pos := "check.go:48", after:=#[gd 8,gc 6],guard:=none }) rfl (fun K hK=>?_) AllReadyH.nil
  rw [if_pos (by rfl)]
  clear hSw
  go_simp
  refine (names_fun e.funcs B e.fv w2 hE2.flies (by omega) hE2.funcs).mono ?_;rintro e1 w3 ⟨m3,rfl,hm3,hn3,hb3⟩
  have hz3:=hb3.size
  have hb3':=hb2'.trans (hb3.mono (by omega))
  replace hn1:=hn1.of (hb3.block _ hn1.lt)
  replace hn2:=hn2.of (hb3.block _ hn2.lt)
  refine hK.out _ _ (SameTo.of hb3') (fun hSw=>?_)
  clear hK K
  try simp only [Act.put,q1,q2,q3]
  refine wt (i:=10) (oi:={ dst:=some 16,op:=Op.build 112 #[(0,Operand.tmp 6),(1,Operand.tmp 9),(3,Operand.tmp 12),(4,Operand.tmp 15),(5,Operand.const (Value.int IntKind.i64 (-1)))],type:=112,pos := "check.go:44", after:=#[gd 0,gd 3,gd 6,gd 9],guard:=none }) (v:=.agg #[e.rv,e.sv,e.fv,tv,.map (some m1),.slice none 0 0,.map (some m2),.map (some m3),.int .i64 (-1),.int .u8 0,.string ⟨#[]⟩,.int .i64 0]) (fun W hW=>?_) hSw ?_
  · first|(go_simp;done)|rfl|kernel_rfl
  try simp only [Act.put]
  refine wpAnyH_ready (rs:=[11]) (by kernel_rfl) (by simp) ?_
  refine AllReadyH.cons (o:={ dst:=some 17,op:=Op.box 112 (Operand.tmp 16),type:=73,pos := "check.go:44", after:=#[gd 10],guard:=none }) rfl (fun K hK=>?_) AllReadyH.nil
  rw [if_pos (by rfl)]
  clear hSw
  go_simp
  have hb4:=below_box w3 (.cells #[e.rv,e.sv,e.fv,tv,.map (some m1),.slice none 0 0,.map (some m2),.map (some m3),.int .i64 (-1),.int .u8 0,.string ⟨#[]⟩,.int .i64 0] 112)
  have hb4':=hb3'.trans (hb4.mono (by omega))
  refine hK.out _ _ (SameTo.of hb4') (fun hSw=>?_)
  clear hK K
  try simp only [Act.put,q1,q2,q3]
  refine wt (i:=12) (oi:={ dst:=some 3,op:=Op.assign (Operand.tmp 17),type:=73,pos := "check.go:44", after:=#[gd 11,gc 9,gp 0,gp 1,gp 2,gp 3,gp 4,gp 5,gp 6,gp 7,gp 8,gp 9,gp 10,gp 11],guard:=none }) (v:=.pointer (some ⟨w3.heap.size,0,none⟩)) (fun W hW=>?_) hSw ?_
  · first|(go_simp;done)|rfl
  try simp only [Act.put]
  refine wpAnyH_done (by kernel_rfl) ?_ _
  obtain⟨W4,hW4⟩:∃ W4,W4=w3.alloc (.cells #[e.rv,e.sv,e.fv,tv,.map (some m1),.slice none 0 0,.map (some m2),.map (some m3),.int .i64 (-1),.int .u8 0,.string ⟨#[]⟩,.int .i64 0] 112):=⟨_,rfl⟩
  obtain⟨c,hc⟩:∃ c,c=w3.heap.size:=⟨_,rfl⟩
  have hcell:W4.heap[c]? = some (.cells #[e.rv,e.sv,e.fv,tv,.map (some m1),.slice none 0 0,.map (some m2),.map (some m3),.int .i64 (-1),.int .u8 0,.string ⟨#[]⟩,.int .i64 0] 112 (0,0)):=by rw [hW4,hc];exact (MapKept.heap_alloc _ _).1
  rw [← hW4] at hb4 hb4' ⊢
  rw [← hc] at hz3 ⊢
  have HNW0:=hid (show Nw c e tv m1 m2 m3 none 0 [] W4 from ⟨hcell,World.ownsRow_nil _ _ _ _,hn1.of (hb4.block _ hn1.lt),hn2.of (hb4.block _ hn2.lt),hn3.of (hb4.block _ hn3.lt),fun i m r h _=>by simp at h⟩)
  have HB4:=hid (show Below w.heap.size w W4 from HB0.out.trans (hb4'.mono (by omega)))
  have hO4:=(hb4'.block _ hlt0).trans HO.out
  obtain⟨q0,q1,q2,q3⟩:=cells_prog _ _ _ _ hO4
  rw [HER.out] at q0
  have hwc:w.heap.size≤c:=by omega
  clear hcell hW4 hc hb4 hb4' hb3 hb3' hb2 hb2' hb1 hn1 hn2 hn3 hm1 hm2 hm3 hE1 hE2 hO4 q1 q2 q3 hSw hz1 hz2
  go_wp2_with fail
  clear q0
  go_loopw [21] (fun q wr=>∃ k:Nat,k≤N∧q = .int .i64 k∧∃ (ao:Option Addr) (cap:Nat) (ms:List Nat),ms.length=k∧Nw c e tv m1 m2 m3 ao cap ms wr∧Below w.heap.size w wr) (fun q _=>N - (intOf q).toNat)
  case atStart=>exact⟨0,by omega,rfl,none,0,[],rfl,HNW0.out,HB4.out⟩
  case round =>
    obtain⟨k,hkN,rfl,ao,cap,ms,hms,hNw,hB⟩:=hrel
    have hsr:=hB.size
    by_cases hlt2:k < N
    · obtain⟨g,off,rfl,hg⟩:=HG.out (by omega)
      have hka:k < e.records.length:=by rw [← HN.out];exact hlt2
      obtain⟨a,haa⟩:∃ r,e.records[k]? = some r:=⟨_,List.getElem?_eq_getElem hka⟩
      have hga:e.records[k] = a:=(List.getElem?_eq_some_iff.1 haa).2
      have hEr:=HEI.out.keeps (hB.mono hBw)
      have hat:=(hEr.rlies.at (by rw [HER.out]) k hka).2
      rw [hga] at hat
      obtain⟨p0,p1⟩:=cells2 hat
      obtain⟨ao2,acap,ea,-⟩:=(hEr.records _ (List.mem_of_getElem? haa)).lies.form
      rw [ea] at p1
      have hb5:=below_box wr (.cells #[.string a.name,.slice ao2 a.fields.length acap] 49)
      obtain⟨W5,hW5⟩:∃ W5,W5=wr.alloc (.cells #[.string a.name,.slice ao2 a.fields.length acap] 49):=⟨_,rfl⟩
      have hO5:W5.heap[wr.heap.size]? = some (.cells #[.string a.name,.slice ao2 a.fields.length acap] 49 (0,0)):=by rw [hW5];exact (MapKept.heap_alloc _ _).1
      rw [← hW5] at hb5
      have hlt5:wr.heap.size < W5.heap.size:=by rw [hW5];simp
      have hN5:=hNw.kept hb5
      have p5:W5.cell? ⟨c,5,none⟩ = some (.slice ao ms.length cap):=by rw [Lib.cell_of_heap hN5.cell];rfl
      have b1:W5.cell? ⟨wr.heap.size,1,none⟩ = some (.slice ao2 a.fields.length acap):=by rw [Lib.cell_of_heap hO5];rfl
      have hvb:Value.ownBlock (.slice ao ms.length cap) ≠ some c:=fun ee=>by have:=(hNw.row.lt c ee).1;omega
      have hri:=(hEr.keeps (hb5.mono (by omega))).records _ (List.mem_of_getElem? haa)
      have HNF:=hid (names_fields a.fields B (.slice ao2 a.fields.length acap) W5.drew (by rw [← ea];exact hri.lies) (by show B≤W5.heap.size;omega))
      have HNW:=hid hN5
      have HVB:=hid hvb
      have HVZ:=hid (show Value.ownBlock (.slice ao ms.length cap) ≠ some wr.heap.size from fun ee=>by have:=(hNw.row.lt wr.heap.size ee).2;omega)
      have HO5:=hid hO5
      have hcW5:c < W5.heap.size:=(Array.getElem?_eq_some_iff.1 hN5.cell).1
      have HAA:=hid (show e.records[ms.length]? = some a by rw [hms];exact haa)
      have HB5:=hid (hB.trans (hb5.mono hsr))
      have HW5:=hid hW5
      have hgs:g < wr.heap.size:=by omega
      have hcwr:c < wr.heap.size:=(Array.getElem?_eq_some_iff.1 hNw.cell).1
      have hsz5:w.heap.size≤W5.heap.size:=by omega
      have hmsL:ms.length≤1000000:=by omega
      have HMS:=hid hms
      clear hms haa hka hga hat ea hb5 hO5 hN5 hEr hri hvb hW5 hNw hB
      go_wp2_with fail
      rw [← HW5.out]
      refine wp_region_late (S:=Sc c wr.heap.size (.slice ao ms.length cap) (.slice ao2 a.fields.length acap)) (fun j=>decide (10≤j)) (by kernel_rfl) ⟨p5,b1⟩ (fun hSw=>?_)
      refine wpAnyL_take (i:=0) (oi:={ dst:=some 25,op:=Op.move (Operand.tmp 3),type:=73,pos := "check.go:52", after:=#[],guard:=none }) (v:=.pointer (some ⟨c,0,none⟩)) rfl (by kernel_rfl) (by kernel_rfl) (by kernel_rfl) rfl (by kernel_rfl) (fun _ _ _ h=>h) (Or.inl ⟨by rfl,fun W hW=>?_⟩) hSw ?_
      · first|(go_simp;done)|rfl
      try simp only [Act.put]
      refine wpAnyL_take (i:=1) (oi:={ dst:=some 26,op:=Op.move (Operand.tmp 3),type:=73,pos := "check.go:52", after:=#[],guard:=none }) (v:=.pointer (some ⟨c,0,none⟩)) rfl (by kernel_rfl) (by kernel_rfl) (by kernel_rfl) rfl (by kernel_rfl) (fun _ _ _ h=>h) (Or.inl ⟨by rfl,fun W hW=>?_⟩) hSw ?_
      · first|(go_simp;done)|rfl
      try simp only [Act.put]
      refine wpAnyL_take (i:=2) (oi:={ dst:=some 27,op:=Op.nilCheck (Operand.tmp 26),type:=0,pos := "check.go:52", after:=#[gd 1],guard:=none }) (v:=.pointer (some ⟨c,0,none⟩)) rfl (by kernel_rfl) (by kernel_rfl) (by kernel_rfl) rfl (by kernel_rfl) (fun _ _ _ h=>h) (Or.inl ⟨by rfl,fun W hW=>?_⟩) hSw ?_
      · first|(go_simp;done)|rfl
      try simp only [Act.put]
      refine wpAnyL_take (i:=3) (oi:={ dst:=some 28,op:=Op.fieldAddr 112 (Operand.tmp 27) 2,type:=0,pos := "check.go:52", after:=#[gd 2],guard:=none }) (v:=.pointer (some ⟨c,5,none⟩)) rfl (by kernel_rfl) (by kernel_rfl) (by kernel_rfl) rfl (by kernel_rfl) (fun _ _ _ h=>h) (Or.inl ⟨by rfl,fun W hW=>?_⟩) hSw ?_
      · first|(go_simp;done)|rfl
      try simp only [Act.put]
      refine wpAnyL_take (i:=4) (oi:={ dst:=some 29,op:=Op.load 110 (Operand.tmp 28),type:=110,pos := "check.go:52", after:=#[gd 3],guard:=none }) (v:=.slice ao ms.length cap) rfl (by kernel_rfl) (by kernel_rfl) (by kernel_rfl) rfl (by kernel_rfl) (fun _ _ _ h=>h) (Or.inl ⟨by rfl,fun W hW=>?_⟩) hSw ?_
      · obtain⟨s0,s1⟩:=hW
        first|(go_simp;done)|rfl
      try simp only [Act.put]
      refine wpAnyL_take (i:=5) (oi:={ dst:=some 30,op:=Op.fieldAddr 49 (Operand.tmp 5) 1,type:=0,pos := "check.go:52", after:=#[],guard:=none }) (v:=.pointer (some ⟨wr.heap.size,1,none⟩)) rfl (by kernel_rfl) (by kernel_rfl) (by kernel_rfl) rfl (by kernel_rfl) (fun _ _ _ h=>h) (Or.inl ⟨by rfl,fun W hW=>?_⟩) hSw ?_
      · first|(go_simp;done)|rfl
      try simp only [Act.put]
      refine wpAnyL_take (i:=6) (oi:={ dst:=some 31,op:=Op.load 23 (Operand.tmp 30),type:=23,pos := "check.go:52", after:=#[gd 5],guard:=none }) (v:=.slice ao2 a.fields.length acap) rfl (by kernel_rfl) (by kernel_rfl) (by kernel_rfl) rfl (by kernel_rfl) (fun _ _ _ h=>h) (Or.inl ⟨by rfl,fun W hW=>?_⟩) hSw ?_
      · obtain⟨s0,s1⟩:=hW
        first|(go_simp;done)|rfl
      try simp only [Act.put]
      refine wpAnyL_ready (rs:=[7]) (by kernel_rfl) (by simp) (AllReadyL.cons (o:={ dst:=some 32,op:=Op.call { callee:=Callee.value (Operand.func 49),args:=#[Operand.tmp 31],argTypes:=#[23] },type:=104,pos := "check.go:52", after:=#[gd 6],guard:=none }) rfl rfl (fun J hK=>?_) AllReadyL.nil)
      rw [if_pos (by rfl)]
      clear hSw
      go_simp
      refine HNF.out.mono ?_;rintro e1 w6 ⟨m,rfl,hm,hnm,hb6⟩
      replace hb6:Below W5.heap.size W5 w6:=(Below.refl _ _).drew.trans hb6
      have hz6:=hb6.size
      refine hK.out _ _ (Sc.below hb6 ⟨p5,b1⟩ hcW5 hlt5) (fun hSw=>?_)
      clear hK J
      try simp only [Act.put,q1,q2,q3]
      refine wpAnyL_ready (rs:=[8]) (by kernel_rfl) (by simp) (AllReadyL.cons (o:={ dst:=some 33,op:=Op.buildSlice 110 1 #[(0,Operand.tmp 32)],type:=110,pos := "check.go:52", after:=#[gd 7],guard:=none }) rfl rfl (fun J hK=>?_) AllReadyL.nil)
      rw [if_pos (by rfl)]
      clear hSw
      go_simp
      have hb7:=below_box w6 (.cells #[.map (some m)] 104)
      have hb7':=hb6.trans (hb7.mono hz6)
      have hz7:(w6.alloc (.cells #[.map (some m)] 104)).heap.size=w6.heap.size+1:=by simp
      have hBe:(w6.alloc (.cells #[.map (some m)] 104)).heap[w6.heap.size]? = some (.cells #[.map (some m)] 104 (0,0)):=(MapKept.heap_alloc _ _).1
      have HNW7:=hid (HNW.out.kept hb7')
      have HNM:=hid (hnm.of (hb7.block _ hnm.lt))
      have HBE:=hid hBe
      have HB7:=hid hb7'
      have HROW:=hid HNW7.out.row
      clear hBe hnm hb7
      refine hK.out _ _ (Sc.below hb7' ⟨p5,b1⟩ hcW5 hlt5) (fun hSw=>?_)
      clear hK J
      try simp only [Act.put,q1,q2,q3]
      clear hb7' hb6
      refine wpAnyL_ready (rs:=[9]) (by kernel_rfl) (by simp) (AllReadyL.cons (o:={ dst:=some 34,op:=Op.call { callee:=Callee.builtin Builtin.append,args:=#[Operand.tmp 29,Operand.tmp 33],argTypes:=#[110,110] },type:=110,pos := "check.go:52", after:=#[gd 4,gd 8,gc 7],guard:=none }) rfl rfl (fun J hK=>?_) AllReadyL.nil)
      rw [if_pos (by rfl)]
      clear hSw
      obtain⟨w7,hw7⟩:∃ w7,w7=w6.alloc (.cells #[.map (some m)] 104):=⟨_,rfl⟩
      rw [← hw7] at HNW7 HNM HBE HB7 HROW hz7 ⊢
      clear hw7
      refine wp_append_lies w7 _ _ _ rfl (c+1) 104 i0 _ 1 8 Tryz.underlying110 HINF.out.1 HINF.out.2.1 HINF.out.2.2.1 HINF.out.2.2.2 rfl (by decide) (.slice ao ms.length cap) ms.length _ rfl HROW.out ⟨w6.heap.size,0,none⟩ 1 1 [.map (some m)] rfl rfl (World.news_of_block HBE.out) (by simp [Value.oneCell']) (by decide) (by unfold maxLen;omega) (by omega) (by omega) w7.heap.size rfl ?_
      intro g2 cap2 w8 hown8 hgrow hgo hglt
      have HST:=hid (HNW7.out.step HNM.out HAA.out hgrow hown8)
      have hcw7:c < w7.heap.size:=(Array.getElem?_eq_some_iff.1 HNW7.out.cell).1
      have hcc:=(hgrow.block c hcw7 (fun e=>HVB.out e.symm)).trans HNW7.out.cell
      have c5:w8.cell? ⟨c,5,none⟩ = some (.slice ao ms.length cap):=by rw [Lib.cell_of_heap hcc];rfl
      have f5:w8.frozen? ⟨c,5,none⟩ = false:=Lib.frozen_of_heap hcc _
      have hb8:Below w.heap.size w w8:=(HB5.out.trans (HB7.out.mono (by omega))).grown hgrow (by omega) (fun j hj=>by have:=(HROW.out.lt j hj).1;omega)
      have HB8:=hid hb8
      have h8z:=(hgrow.block wr.heap.size (by omega) (fun e=>HVZ.out e.symm)).trans ((HB7.out.block _ hlt5).trans HO5.out)
      clear hown8 hgrow hgo hglt hb8 hcw7
      refine hK.out _ _ (⟨c5,by rw [Lib.cell_of_heap h8z];rfl⟩) (fun hSw=>?_)
      clear hK J
      try simp only [Act.put]
      refine wpAnyL_only (rs:=[10]) (by kernel_rfl) (by simp) (by rfl) ?_
      refine wpAny_one (i:=10) (o:={ dst:=some 35,op:=Op.nilCheck (Operand.tmp 25),type:=0,pos := "check.go:52", after:=#[gd 0,gp 0,gp 1,gp 2,gp 3,gp 4,gp 5,gp 6,gp 7,gp 8,gp 9],guard:=none }) (by kernel_rfl) rfl (fun J hK=>?_)
      rw [if_pos (by rfl)]
      go_simp
      refine hK.out _ _ ?_
      clear hK J
      try simp only [Act.put,q1,q2,q3]
      refine wpAny_one (i:=11) (o:={ dst:=some 36,op:=Op.fieldAddr 112 (Operand.tmp 35) 2,type:=0,pos := "check.go:52", after:=#[gd 10,gp 0,gp 1,gp 2,gp 3,gp 4,gp 5,gp 6,gp 7,gp 8,gp 9],guard:=none }) (by kernel_rfl) rfl (fun J hK=>?_)
      rw [if_pos (by rfl)]
      go_simp
      refine hK.out _ _ ?_
      clear hK J
      try simp only [Act.put,q1,q2,q3]
      refine wpAny_one (i:=12) (o:={ dst:=none,op:=Op.store 110 (Operand.tmp 36) (Operand.tmp 34),type:=0,pos := "check.go:52", after:=#[gd 11,gd 9,gc 9,gp 0,gp 1,gp 2,gp 3,gp 4,gp 5,gp 6,gp 7,gp 8,gp 9],guard:=none }) (by kernel_rfl) rfl (fun J hK=>?_)
      rw [if_pos (by rfl)]
      go_simp
      refine hK.out _ _ ?_
      clear hK J
      try simp only [Act.put,q1,q2,q3]
      refine wpAny_done (by kernel_rfl) ?_ _
      have HB9:=hid (HB8.out.setCell (p:=⟨c,5,none⟩) hwc (.slice (some ⟨g2,0,none⟩) (ms.length+1) cap2))
      clear c5 f5 p5 b1
      go_wp2_with fail
      go_roundw
      case rel=>exact⟨k+1,by omega,by go_num,some ⟨g2,0,none⟩,cap2,ms ++ [m],by simp [HMS.out],HST.out,HB9.out⟩
      case measure=>simp [intOf];omega
    · have HT:=hid (hNw.tk ((HEI.out.keeps (hB.mono hBw)).up (by omega)) (by rw [hms,← HN.out];omega) (by omega))
      have HB9:=hid hB
      clear hNw hB
      go_wp2_with fail
      go_ret
      exact⟨c,rfl,hwc,HT.out,HB9.out⟩
end Go.Proofs.YtdhieihcmnpneaaGreatDoor
/- What holds of a program that show.Check lets pass: what its checker of types may ask of it. -/
namespace Go.Proofs.YtdhieihcmnpneaaGreatDoor
open Lib (hid)
set_option maxHeartbeats 4000000
open Go.RowKit
theorem fchkSs_of (l:List St) (hl:∀ a ∈ l,∀ d c m,chkS d c a = .ok m→FineS a∧c+St.count a≤m∧m≤1024):∀ d c m,c≤1024→chkSs d c l = .ok m→(∀ a ∈ l,FineS a)∧c+St.counts l≤m∧m≤1024:=by
  induction l with
  | nil=>intro d c m hc e;rw [chkSs_nil] at e;cases e;rw [counts_nil];exact⟨(fun a ha=>by cases ha),by omega,hc⟩
  | cons a r ihr =>
    intro d c m hc e
    rw [chkSs_cons] at e
    cases ha:chkS d c a with
    | error k=>rw [ha] at e;cases e
    | ok c' =>
      rw [ha] at e
      obtain⟨h1,h2,h3⟩:=hl a (by simp) d c c' ha
      obtain⟨g1,g2,g3⟩:=ihr (fun b hb=>hl b (by simp [hb])) d c' m h3 e
      rw [counts_cons]
      refine⟨fun b hb=>?_,by omega,g3⟩
      rcases List.mem_cons.1 hb with rfl|hb
      · exact h1
      · exact g1 b hb
theorem goesX_of {h:Sh} {x:X} (hx:x.hd.k ≠ 0 ∨ h.k=3 ∨ h.k=4 ∨ h.k=6):goesX h x=true:=by
  rcases hx with hx|hx|hx|hx
  · unfold goesX noX
    simp [hx]
  all_goals (unfold goesX;rw [hx];simp [swants,wss])
theorem goesY_of {h:Sh} (hk:h.k=2):goesY h=true:=by unfold goesY;rw [hk];rfl
theorem head_of {h:Sh} {x y:X} {bl el:Nat} (hf:sform h x y bl el=0) (hk:h.k=2 ∨ h.k=8):x.hd.k ≠ 0:=by
  intro h0
  rcases hk with hk|hk
  · unfold sform at hf
    rw [hk] at hf
    simp [swants,wss,rightX,h0] at hf
  · unfold sform at hf
    rw [hk] at hf
    simp [swants,wss,rightX,h0] at hf
theorem fchkS:∀ s,∀ d c m,chkS d c s = .ok m→FineS s∧c+St.count s≤m∧m≤1024:=by
  refine St.ind fun h x y bv ev b l ih1 ih2 d c m e=>?_
  rw [chkS_mk] at e
  split at e
  · cases e
  rename_i hdc
  split at e
  case isFalse=>cases e
  rename_i hf
  cases hx:(if goesX h x=true then chk 1 (c+1) x else Except.ok (c+1)) with
  | error k=>rw [hx] at e;cases e
  | ok c1 =>
  rw [hx] at e
  simp only at e
  cases hy:(if goesY h=true then chk 1 c1 y else Except.ok c1) with
  | error k=>rw [hy] at e;cases e
  | ok c2 =>
  rw [hy] at e
  simp only at e
  have kx:(goesX h x=true→Fine x∧X.size x≤1024)∧c+1≤c1∧c1≤1024:=by
    by_cases g:goesX h x=true
    · rw [if_pos g] at hx
      obtain⟨h1,h2,h3⟩:=chk_ok x 1 (c+1) c1 hx
      exact⟨fun _=>⟨h2,by omega⟩,by omega,h3⟩
    · rw [if_neg g] at hx;cases hx
      exact⟨fun h=>absurd h g,by omega,by omega⟩
  have ky:(goesY h=true→Fine y∧X.size y≤1024)∧c1≤c2∧c2≤1024:=by
    by_cases g:goesY h=true
    · rw [if_pos g] at hy
      obtain⟨h1,h2,h3⟩:=chk_ok y 1 c1 c2 hy
      exact⟨fun _=>⟨h2,by omega⟩,by omega,h3⟩
    · rw [if_neg g] at hy;cases hy
      exact⟨fun h=>absurd h g,by omega,kx.2.2⟩
  cases hb:chkSs (d+1) c2 b with
  | error k=>rw [hb] at e;cases e
  | ok c3 =>
  rw [hb] at e
  simp only at e
  obtain⟨b1,b2,b3⟩:=fchkSs_of b ih1 (d+1) c2 c3 ky.2.2 hb
  obtain⟨l1,l2,l3⟩:=fchkSs_of l ih2 (d+1) c3 m b3 e
  rw [count_mk]
  exact⟨.mk h x y bv ev b l (fun g=>kx.1 (goesX_of g)) (fun g=>ky.1 (goesY_of g)) (head_of hf) b1 l1,by omega,l3⟩
theorem fchkSs (l:List St) (d c m:Nat) (hc:c≤1024) (e:chkSs d c l = .ok m):(∀ a ∈ l,FineS a)∧c+St.counts l≤m∧m≤1024:=fchkSs_of l (fun a _=>fchkS a) d c m hc e
theorem chkF_ok (most:Nat):∀ (l:List Fd) (i:Nat),i≤most→chkF most i l=0→i+l.length≤most
  | [],i,hi,_=>by simpa using hi
  | f :: r,i,_,e=>by
    rw [chkF] at e
    split at e
    · cases e
    split at e
    · cases e
    split at e
    · exact absurd e (by assumption)
    · have:=chkF_ok most r (i+1) (by omega) e
      simp only [List.length_cons];omega
theorem chkR_ok:∀ (l:List Rc) (i:Nat),i≤16→chkR i l=0→i+l.length≤16
  | [],i,hi,_=>by simpa using hi
  | f :: r,i,_,e=>by
    rw [chkR] at e
    split at e
    · cases e
    split at e
    · cases e
    split at e
    · exact absurd e (by assumption)
    · have:=chkR_ok r (i+1) (by omega) e
      simp only [List.length_cons];omega
theorem chkFs_ok:∀ (l:List Fn) (i c m:Nat),i≤32→c≤1024→chkFs i c l = .ok m→(∀ f ∈ l,∀ a ∈ f.body,FineS a)∧i+l.length≤32∧c+fnsN l≤m∧m≤1024
  | [],i,c,m,hi,hc,e=>by cases e;exact⟨(fun f hf=>by cases hf),by simpa using hi,by simp [fnsN],hc⟩
  | f :: r,i,c,m,_,hc,e=>by
    rw [chkFs] at e
    split at e
    · cases e
    cases hf:chkFn c f with
    | error k=>rw [hf] at e;cases e
    | ok c' =>
      rw [hf] at e
      unfold chkFn at hf
      split at hf
      · cases hf
      split at hf
      · cases hf
      split at hf
      · cases hf
      obtain⟨h1,h2,h3⟩:=fchkSs f.body 1 c c' hc hf
      obtain⟨g1,g2,g3,g4⟩:=chkFs_ok r (i+1) c' m (by omega) h3 e
      refine⟨fun q hq=>?_,by simp only [List.length_cons];omega,by rw [fnsN];omega,g4⟩
      rcases List.mem_cons.1 hq with rfl|hq
      · exact h1
      · exact g1 q hq
theorem chkT_ok:∀ (l:List Th) (i c m:Nat),i≤4→c≤1024→chkT i c l = .ok m→(∀ f ∈ l,∀ a ∈ f.list,FineS a)∧i+l.length≤4∧c+thsN l≤m∧m≤1024
  | [],i,c,m,hi,hc,e=>by cases e;exact⟨(fun f hf=>by cases hf),by simpa using hi,by simp [thsN],hc⟩
  | f :: r,i,c,m,_,hc,e=>by
    rw [chkT] at e
    split at e
    · cases e
    cases hf:chkSs 1 c f.list with
    | error k=>rw [hf] at e;cases e
    | ok c' =>
      rw [hf] at e
      obtain⟨h1,h2,h3⟩:=fchkSs f.list 1 c c' hc hf
      obtain⟨g1,g2,g3,g4⟩:=chkT_ok r (i+1) c' m (by omega) h3 e
      refine⟨fun q hq=>?_,by simp only [List.length_cons];omega,by rw [thsN];omega,g4⟩
      rcases List.mem_cons.1 hq with rfl|hq
      · exact h1
      · exact g1 q hq
theorem chkP_ok (p:Pr) (m:Nat) (e:chkP p = .ok m):(∀ f ∈ p.e.funcs,∀ a ∈ f.body,FineS a)∧(∀ t ∈ p.threads,∀ a ∈ t.list,FineS a)∧placesN p≤1000000:=by
  unfold chkP at e
  cases he:chkE p.e with
  | error k=>rw [he] at e;cases e
  | ok c =>
    rw [he] at e
    unfold chkE at he
    split at he
    · cases he
    rename_i hr
    split at he
    · cases he
    rename_i hs
    have h1:=chkR_ok p.e.records 0 (by omega) (Classical.not_not.1 hr)
    have h2:=chkF_ok 1024 p.e.shared 0 (by omega) (Classical.not_not.1 hs)
    obtain⟨f1,f2,f3,f4⟩:=chkFs_ok p.e.funcs 0 0 c (by omega) (by omega) he
    obtain⟨t1,t2,t3,t4⟩:=chkT_ok p.threads 0 c m (by omega) f4 e
    refine⟨f1,t1, ?_⟩
    unfold placesN
    omega
theorem types_check_any (P:Pr) (B:Nat) (w:World) (hBw:B≤w.heap.size) (hI:PIn w B P) :
    Calls Tryz.prog 11 #[.agg #[P.e.rv,P.e.sv,P.e.fv,P.tv]] w fun e w'=>e = .returned (.tuple #[.int .i64 (typesT P).1,.int .i64 (typesT P).2])∧Below w.heap.size w w':=
  tcheck_any P B w (fun c hc=>tnewck_any P (by have:=(chkP_ok P c hc).2.2;unfold placesN at this;omega)) hBw hI (fun c hc=>chkP_ok P c hc)
end Go.Proofs.YtdhieihcmnpneaaGreatDoor
