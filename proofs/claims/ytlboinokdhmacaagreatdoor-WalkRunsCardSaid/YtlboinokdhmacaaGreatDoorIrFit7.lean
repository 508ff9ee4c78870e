import Derived.Test.YtlboinokdhmacaaGreatDoorIrSide
namespace Go.Proofs.YtlboinokdhmacaaGreatDoor
set_option maxHeartbeats 64000000
set_option maxRecDepth 1000000
open Lib(hid)
section
open Go Go.RowKit
section
variable {P:Program} {ops:Array Oper} {Q:Exit→Act→World→Prop} {md:Region.Mode} {S:World→Prop} {late:Nat→Bool}
def wpAnyL (P:Program) (md:Region.Mode) (ops:Array Oper) (Q:Exit→Act→World→Prop) (S:World→Prop) (late:Nat→Bool):Nat→Array Bool→Act→World→Prop
 | 0,listed,a,w=>Region.ready md ops listed=[]∧Q .normal a w
 | fuel+1,listed,a,w =>
  (Region.ready md ops listed=[]→Q .normal a w) ∧
  ∀ i ∈ Region.ready md ops listed,wpOp P ops Q i (fun a' w'=>if late i=true then wpAny P md ops Q fuel (listed.setIfInBounds i true) a' w' else S w'∧wpAnyL P md ops Q S late fuel (listed.setIfInBounds i true) a' w') a w
theorem uX:∀ (fuel:Nat) (listed:Array Bool) (a:Act) (w:World),wpAnyL P md ops Q S late fuel listed a w→wpAny P md ops Q fuel listed a w
 | 0,_,_,_,h=>h
 | fuel+1,_,_,_,h=>⟨h.1,fun i hi=>wpOp_mono (fun a' w' h'=>by
  split at h'
  · exact h'
  · exact uX fuel _ a' w' h'.2) (h.2 i hi)⟩
theorem wpAnyL_first {i:Nat} {oi:Oper} {v:Value} (hi:ops[i]? = some oi) (hsel:∀ (j:Nat) (o:Oper) cs b,ops[j]? = some o→o.op ≠ .select cs b)
 (hQ:∀ c a w,Q (.panic c) (a.put oi.dst v) w→Q (.panic c) a w) (hil:late i=false) (hlate:∀ j oj,ops[j]? = some oj→late j=true→∃ e ∈ oj.after,Region.binds md e=true∧e.on=i) :
 ∀ (fuel:Nat) (listed:Array Bool) (a:Act) (w:World),
  (∀ j oj,ops[j]? = some oj→j≠i→listed.getD j true=false→(∀ e ∈ oj.after,Region.binds md e=true→e.on≠i)→oi.apart ops oj=true) →
  i ∈ Region.ready md ops listed→YieldsIf P ops S oi v a→S w →
  wpAnyL P md ops Q S late fuel (listed.setIfInBounds i true) (a.put oi.dst v) w→wpAnyL P md ops Q S late (fuel+1) listed a w:=by
 intro fuel;induction fuel with
 | zero =>
  intro listed a w _ hr hy hS H;refine⟨fun h=>(by rw[h]at hr;cases hr),fun j hj=>?_⟩
  by_cases hji:j=i
  · subst hji;exact hy.wpOp hi hS (by rw[hil];exact⟨hS,H⟩)
  · have:=ready_mono hj hji
    rw[H.1]at this;cases this
 | succ fuel ih =>
  intro listed a w hfree hr hy hS H;refine⟨fun h=>(by rw[h]at hr;cases hr),fun j hj=>?_⟩
  by_cases hji:j=i
  · subst hji;exact hy.wpOp hi hS (by rw[hil];exact⟨hS,H⟩)
  · have h1:=H.2 j (ready_mono hj hji)
    obtain⟨hjun,oj,hoj,hall⟩:=mem_ready.1 hj
    have hnot:∀ e ∈ oj.after,Region.binds md e=true→e.on≠i:=fun e he hb heq=>by
     have h1:=hall e he hb;have h0:=(mem_ready.1 hr).1;rw[heq]at h1;rcases Nat.lt_or_ge i listed.size with h'|h'
     · simp[h']at h0 h1;rw[h0]at h1;cases h1
     · simp[Array.getElem?_eq_none h']at h1
    have hjl:late j=false:=by
     cases hl:late j with
     | false=>rfl
     | true =>
      obtain⟨e,he,hb,heq⟩:=hlate j oj hoj hl;exact absurd heq (hnot e he hb)
    rw[hjl]at h1 ⊢;have h2:=wpOp_putIf hoj (hfree j oj hoj hji hjun hnot) (fun cs b=>hsel i oi cs b hi) (fun cs b=>hsel j oj cs b hoj) hQ hy h1
    have hfree':∀ k ok,ops[k]? = some ok→k≠i→(listed.setIfInBounds j true).getD k true=false →
     (∀ e ∈ ok.after,Region.binds md e=true→e.on≠i)→oi.apart ops ok=true:=fun k ok hk hki hun hno=>by
     refine hfree k ok hk hki ?_ hno
     by_cases hjk:j=k
     · subst hjk;exact hjun
     · rw[getD_set_ne true hjk]at hun;exact hun
    refine wpOp_mono (fun a' w' h3=>?_) h2;refine⟨h3.2.1,ih (listed.setIfInBounds j true) a' w' hfree' (ready_mono hr (Ne.symm hji)) h3.1 h3.2.1 ?_⟩;rw[Array.setIfInBounds_comm _ _ hji];exact h3.2.2
def waits (md:Region.Mode) (ops:Array Oper) (late:Nat→Bool) (i:Nat):Bool:=(List.range ops.size).all fun j=>!late j || (match ops[j]? with|some oj=>oj.after.any fun e=>Region.binds md e && e.on==i|none=>true)
theorem Xu {i:Nat} (h:waits md ops late i=true):∀ j oj,ops[j]? = some oj→late j=true→∃ e ∈ oj.after,Region.binds md e=true∧e.on=i:=by
 intro j oj hoj hl;have hj:j<ops.size:=(Array.getElem?_eq_some_iff.1 hoj).1;have:=List.all_eq_true.1 h j (List.mem_range.2 hj);rw[hl,hoj]at this;simp only[Bool.not_true,Bool.false_or]at this;obtain⟨e,he,hb⟩:=Array.any_eq_true'.1 this;simp only[Bool.and_eq_true,beq_iff_eq]at hb;exact⟨e,he,hb⟩
theorem uY {i:Nat} {oi:Oper} {v:Value} {fuel:Nat} {listed:Array Bool} {a:Act} {w:World} (hi:ops[i]? = some oi)
 (hs:Region.noSelect ops=true) (hf:Region.free md ops listed i=true) (hr:(Region.ready md ops listed).contains i=true) (hil:late i=false) (hlw:waits md ops late i=true)
 (hQ:∀ c a w,Q (.panic c) (a.put oi.dst v) w→Q (.panic c) a w) (hy:YieldsIf P ops S oi v a) (hS:S w)
 (h:wpAnyL P md ops Q S late fuel (listed.setIfInBounds i true) (a.put oi.dst v) w):wpAnyL P md ops Q S late (fuel+1) listed a w:=
 wpAnyL_first hi (Region.noSelect_spec hs) hQ hil (Xu hlw) fuel listed a w (Region.free_spec hi hf) (by simpa using hr) hy hS h
def qC (P:Program) (md:Region.Mode) (ops:Array Oper) (Q:Exit→Act→World→Prop) (S:World→Prop) (late:Nat→Bool) (fuel:Nat) (listed:Array Bool) (a:Act) (w:World) (rs:List Nat):Prop:=
 ∀ i ∈ rs,wpOp P ops Q i (fun a' w'=>if late i=true then wpAny P md ops Q fuel (listed.setIfInBounds i true) a' w' else S w'∧wpAnyL P md ops Q S late fuel (listed.setIfInBounds i true) a' w') a w
theorem qC.nil {fuel:Nat} {listed:Array Bool} {a:Act} {w:World}:qC P md ops Q S late fuel listed a w []:=fun _ h=>by cases h
theorem qC.cons {fuel:Nat} {listed:Array Bool} {a:Act} {w:World} {i:Nat} {o:Oper} {rs:List Nat} (ho:ops[i]? = some o) (hl:late i=false)
 (h:∀ K':Act→World→Prop,Shut (∀ a w,S w→(S w→wpAnyL P md ops Q S late fuel (listed.setIfInBounds i true) a w)→K' a w)→if Region.wanted o (yielded ops a.tmps)=true then Oper.wp P o a w K' Q else K' (a.put o.dst undef) w)
 (hs:qC P md ops Q S late fuel listed a w rs):qC P md ops Q S late fuel listed a w (i :: rs):=fun j hj=>by
 rcases List.mem_cons.1 hj with rfl|hj
 · rw[hl]
   exact wpOp_step ho (fun K' hK=>h K' (fun a w hS hW=>hK a w ⟨hS,hW hS⟩))
 · exact hs j hj
theorem Xk {rs:List Nat} {fuel:Nat} {listed:Array Bool} {a:Act} {w:World} (hr:Region.ready md ops listed=rs) (hne:rs ≠ [])
 (h:qC P md ops Q S late fuel listed a w rs):wpAnyL P md ops Q S late (fuel+1) listed a w:=
 ⟨fun h0=>absurd (hr ▸ h0) hne,hr ▸ h⟩
theorem yP {rs:List Nat} {fuel:Nat} {listed:Array Bool} {a:Act} {w:World} (hr:Region.ready md ops listed=rs) (hne:rs ≠ []) (hl:rs.all late=true)
 (h:wpAny P md ops Q (fuel+1) listed a w):wpAnyL P md ops Q S late (fuel+1) listed a w:=by
 refine⟨fun h0=>absurd (hr ▸ h0) hne,fun i hi=>?_⟩;have hli:late i=true:=List.all_eq_true.1 hl i (by rw[←hr];exact hi);have:=h.2 i hi;rw[hli];exact this
theorem Xj {i:Nat} {o:Oper} {fuel:Nat} {listed:Array Bool} {a:Act} {w:World} (hr:Region.ready md ops listed=[i]) (ho:ops[i]? = some o)
 (h:∀ K':Act→World→Prop,Shut (∀ a w,wpAny P md ops Q fuel (listed.setIfInBounds i true) a w→K' a w)→if Region.wanted o (yielded ops a.tmps)=true then Oper.wp P o a w K' Q else K' (a.put o.dst undef) w):wpAny P md ops Q (fuel+1) listed a w:=
 wpAny_ready hr (by simp) (AllReady.cons ho h AllReady.nil)
theorem yO {id:Nat} {a:Act} {w:World} (late:Nat→Bool) (hm:P.follows .mixedOrders=true) (hS:S w.drew)
 (h:S w.drew→wpAnyL P .any ops Q S late ops.size (Array.replicate ops.size false) a w.drew):(Code.region id ops true).wp P Q a w:=
 wp_region_any hm (uX _ _ _ _ (h hS))
theorem tG (i:Nat) (v:Value) {fuel:Nat} {listed:Array Bool} {a:Act} {w:World} {d:Option Tmp} {o:Op} {t:TypeId} {p:String} {af:Array Edge} {g:Option (Nat × Bool)} (hS:S w) (hy:∀ W,S W→(execOp a.eval ⟨d,o,t,p,af,g⟩).run P W = .ok (.value v) W) (h:wpAnyH P md ops Q S fuel (listed.setIfInBounds i true) (a.put d v) w) (hi:ops[i]? = some ⟨d,o,t,p,af,g⟩:=by exact rfl) (hs:Region.noSelect ops=true:=by kernel_rfl) (hf:Region.free md ops listed i=true:=by kernel_rfl) (hr:(Region.ready md ops listed).contains i=true:=by kernel_rfl) (hw:Region.wanted ⟨d,o,t,p,af,g⟩ (yielded ops a.tmps)=true:=by rfl) (hQ:∀ c a w,Q (.panic c) (a.put d v) w→Q (.panic c) a w:=by exact fun _ _ _ h=>h):wpAnyH P md ops Q S (fuel+1) listed a w:=wpAnyH_take hi hs hf hr hQ (Or.inl ⟨hw,hy⟩) hS h
theorem tH (i:Nat) (v:Value) {fuel:Nat} {listed:Array Bool} {a:Act} {w:World} {d:Option Tmp} {o:Op} {t:TypeId} {p:String} {af:Array Edge} {g:Option (Nat × Bool)} (hS:S w) (h:wpAnyH P md ops Q S fuel (listed.setIfInBounds i true) (a.put d v) w) (hi:ops[i]? = some ⟨d,o,t,p,af,g⟩:=by exact rfl) (hs:Region.noSelect ops=true:=by kernel_rfl) (hf:Region.free md ops listed i=true:=by kernel_rfl) (hr:(Region.ready md ops listed).contains i=true:=by kernel_rfl) (hw:Region.wanted ⟨d,o,t,p,af,g⟩ (yielded ops a.tmps)=true:=by rfl) (hQ:∀ c a w,Q (.panic c) (a.put d v) w→Q (.panic c) a w:=by exact fun _ _ _ h=>h) (hy:∀ W,S W→(execOp a.eval ⟨d,o,t,p,af,g⟩).run P W = .ok (.value v) W:=by intro W hW;first|(go_simp;done)|rfl):wpAnyH P md ops Q S (fuel+1) listed a w:=wpAnyH_take hi hs hf hr hQ (Or.inl ⟨hw,hy⟩) hS h
theorem tN (i:Nat) {fuel:Nat} {listed:Array Bool} {a:Act} {w:World} {d:Option Tmp} {o:Op} {t:TypeId} {p:String} {af:Array Edge} {g:Option (Nat × Bool)} (hS:S w) (h:wpAnyH P md ops Q S fuel (listed.setIfInBounds i true) (a.put d undef) w) (hi:ops[i]? = some ⟨d,o,t,p,af,g⟩:=by exact rfl) (hs:Region.noSelect ops=true:=by kernel_rfl) (hf:Region.free md ops listed i=true:=by kernel_rfl) (hr:(Region.ready md ops listed).contains i=true:=by kernel_rfl) (hw:Region.wanted ⟨d,o,t,p,af,g⟩ (yielded ops a.tmps)=false:=by rfl) (hQ:∀ c a w,Q (.panic c) (a.put d undef) w→Q (.panic c) a w:=by exact fun _ _ _ h=>h):wpAnyH P md ops Q S (fuel+1) listed a w:=wpAnyH_take hi hs hf hr hQ (Or.inr ⟨hw,rfl⟩) hS h
theorem lG (i:Nat) (v:Value) {fuel:Nat} {listed:Array Bool} {a:Act} {w:World} {d:Option Tmp} {o:Op} {t:TypeId} {p:String} {af:Array Edge} {g:Option (Nat × Bool)} (hS:S w) (hy:∀ W,S W→(execOp a.eval ⟨d,o,t,p,af,g⟩).run P W = .ok (.value v) W) (h:wpAnyL P md ops Q S late fuel (listed.setIfInBounds i true) (a.put d v) w) (hi:ops[i]? = some ⟨d,o,t,p,af,g⟩:=by exact rfl) (hs:Region.noSelect ops=true:=by kernel_rfl) (hf:Region.free md ops listed i=true:=by kernel_rfl) (hr:(Region.ready md ops listed).contains i=true:=by kernel_rfl) (hil:late i=false:=by rfl) (hlw:waits md ops late i=true:=by kernel_rfl) (hw:Region.wanted ⟨d,o,t,p,af,g⟩ (yielded ops a.tmps)=true:=by rfl) (hQ:∀ c a w,Q (.panic c) (a.put d v) w→Q (.panic c) a w:=by exact fun _ _ _ h=>h):wpAnyL P md ops Q S late (fuel+1) listed a w:=uY hi hs hf hr hil hlw hQ (Or.inl ⟨hw,hy⟩) hS h
theorem lH (i:Nat) (v:Value) {fuel:Nat} {listed:Array Bool} {a:Act} {w:World} {d:Option Tmp} {o:Op} {t:TypeId} {p:String} {af:Array Edge} {g:Option (Nat × Bool)} (hS:S w) (h:wpAnyL P md ops Q S late fuel (listed.setIfInBounds i true) (a.put d v) w) (hi:ops[i]? = some ⟨d,o,t,p,af,g⟩:=by exact rfl) (hs:Region.noSelect ops=true:=by kernel_rfl) (hf:Region.free md ops listed i=true:=by kernel_rfl) (hr:(Region.ready md ops listed).contains i=true:=by kernel_rfl) (hil:late i=false:=by rfl) (hlw:waits md ops late i=true:=by kernel_rfl) (hw:Region.wanted ⟨d,o,t,p,af,g⟩ (yielded ops a.tmps)=true:=by rfl) (hQ:∀ c a w,Q (.panic c) (a.put d v) w→Q (.panic c) a w:=by exact fun _ _ _ h=>h) (hy:∀ W,S W→(execOp a.eval ⟨d,o,t,p,af,g⟩).run P W = .ok (.value v) W:=by intro W hW;first|(go_simp;done)|rfl):wpAnyL P md ops Q S late (fuel+1) listed a w:=uY hi hs hf hr hil hlw hQ (Or.inl ⟨hw,hy⟩) hS h
theorem tR (i:Nat) {fuel:Nat} {listed:Array Bool} {a:Act} {w:World} {d:Option Tmp} {o:Op} {t:TypeId} {p:String} {af:Array Edge} {g:Option (Nat × Bool)} (h:∀ K':Act→World→Prop,Shut (∀ a w,S w→(S w→wpAnyH P md ops Q S fuel (listed.setIfInBounds i true) a w)→K' a w)→Oper.wp P ⟨d,o,t,p,af,g⟩ a w K' Q) (hi:ops[i]? = some ⟨d,o,t,p,af,g⟩:=by exact rfl) (hr:Region.ready md ops listed=[i]:=by kernel_rfl) (hw:Region.wanted ⟨d,o,t,p,af,g⟩ (yielded ops a.tmps)=true:=by rfl):wpAnyH P md ops Q S (fuel+1) listed a w:=
 wpAnyH_ready hr (by simp) (AllReadyH.cons hi (fun K' hK=>by rw[if_pos hw];exact h K' hK) AllReadyH.nil)
theorem lR (i:Nat) {fuel:Nat} {listed:Array Bool} {a:Act} {w:World} {d:Option Tmp} {o:Op} {t:TypeId} {p:String} {af:Array Edge} {g:Option (Nat × Bool)} (h:∀ K':Act→World→Prop,Shut (∀ a w,S w→(S w→wpAnyL P md ops Q S late fuel (listed.setIfInBounds i true) a w)→K' a w)→Oper.wp P ⟨d,o,t,p,af,g⟩ a w K' Q) (hi:ops[i]? = some ⟨d,o,t,p,af,g⟩:=by exact rfl) (hr:Region.ready md ops listed=[i]:=by kernel_rfl) (hil:late i=false:=by rfl) (hw:Region.wanted ⟨d,o,t,p,af,g⟩ (yielded ops a.tmps)=true:=by rfl):wpAnyL P md ops Q S late (fuel+1) listed a w:=
 Xk hr (by simp) (qC.cons hi hil (fun K' hK=>by rw[if_pos hw];exact h K' hK) qC.nil)
theorem oR (i:Nat) {fuel:Nat} {listed:Array Bool} {a:Act} {w:World} {d:Option Tmp} {o:Op} {t:TypeId} {p:String} {af:Array Edge} {g:Option (Nat × Bool)} (h:∀ K':Act→World→Prop,Shut (∀ a w,wpAny P md ops Q fuel (listed.setIfInBounds i true) a w→K' a w)→Oper.wp P ⟨d,o,t,p,af,g⟩ a w K' Q) (hi:ops[i]? = some ⟨d,o,t,p,af,g⟩:=by exact rfl) (hr:Region.ready md ops listed=[i]:=by kernel_rfl) (hw:Region.wanted ⟨d,o,t,p,af,g⟩ (yielded ops a.tmps)=true:=by rfl):wpAny P md ops Q (fuel+1) listed a w:=
 Xj hr hi (fun K' hK=>by rw[if_pos hw];exact h K' hK)
theorem nS:(∀ (a:Act) (t:Tmp) (v:Value),a.put (some t) v={ a with tmps:=a.tmps.setIfInBounds t v })∧(∀ (a:Act) (v:Value),a.put none v=a)∧(∀ (l:List Value) (i:Nat) (x:Value),l.toArray.setIfInBounds i x=(l.set i x).toArray)∧(∀ (l:List Bool) (i:Nat) (x:Bool),l.toArray.setIfInBounds i x=(l.set i x).toArray) ∧
 (∀ (x y:Value) (l:List Value),(x :: l).set 0 y=y :: l)∧(∀ (x y:Bool) (l:List Bool),(x :: l).set 0 y=y :: l)∧(∀ (x y:Value) (l:List Value) (n:Nat),(x :: l).set (n+1) y=x :: l.set n y)∧(∀ (x y:Bool) (l:List Bool) (n:Nat),(x :: l).set (n+1) y=x :: l.set n y):=
 ⟨fun _ _ _=>rfl,fun _ _=>rfl,fun _ _ _=>List.setIfInBounds_toArray _ _ _,fun _ _ _=>List.setIfInBounds_toArray _ _ _,fun _ _ _=>rfl,fun _ _ _=>rfl,fun _ _ _ _=>rfl,fun _ _ _ _=>rfl⟩
end
end
open Go.RowKit
attribute [local go_sem ↓] zL zJ
theorem uI (s:ByteArray):s.toList=s.data.toList:=ByteArray.toList_eq s
theorem z1l (k:Int):(jL k).toList.isEmpty = !inB k 1 14:=by
 rw[uI]
 by_cases h:k=1∨k=2∨k=3∨k=4∨k=5∨k=6∨k=7∨k=8∨k=9∨k=10∨k=11∨k=12∨k=13∨k=14
 · rcases h with rfl|rfl|rfl|rfl|rfl|rfl|rfl|rfl|rfl|rfl|rfl|rfl|rfl|rfl <;> rfl
 · simp only[not_or]at h
   have e:inB k 1 14=false:=by unfold inB;rw[Bool.and_eq_false_iff];simp only[decide_eq_false_iff_not];omega
   rw[e];simp[jL,h]
theorem Kg (k:Int):(jE k).toList.isEmpty = !inB k 1 14:=by
 rw[uI]
 by_cases h:k=1∨k=2∨k=3∨k=4∨k=5∨k=6∨k=7∨k=8∨k=9∨k=10∨k=11∨k=12∨k=13∨k=14
 · rcases h with rfl|rfl|rfl|rfl|rfl|rfl|rfl|rfl|rfl|rfl|rfl|rfl|rfl|rfl <;> rfl
 · simp only[not_or]at h
   have e:inB k 1 14=false:=by unfold inB;rw[Bool.and_eq_false_iff];simp only[decide_eq_false_iff_not];omega
   rw[e];simp[jE,h]
theorem JW (k:Int):(jD k).toList.isEmpty = !inB k 1 3:=by
 rw[uI]
 by_cases h:k=1∨k=2∨k=3
 · rcases h with rfl|rfl|rfl <;> rfl
 · simp only[not_or]at h
   have e:inB k 1 3=false:=by unfold inB;rw[Bool.and_eq_false_iff];simp only[decide_eq_false_iff_not];omega
   rw[e];simp[jD,h]
theorem z1k (B c m:Nat) (g:Gr) (W:Int) (M:List Bool) (i:In) (w:World) (h:zP w B c m g W M) (ha:zg g.refs i.a=true) (hb:zg g.refs i.b=true) (hc:zg g.refs i.c=true) :
 Calls Tryz.prog 261 #[.pointer (some ⟨c,0,none⟩),.agg #[.int .u8 i.k,.int .u8 i.o,.int .i64 i.a,.int .i64 i.b,.int .i64 i.c,.int .i64 i.n]] w fun e w'=>e = .returned (.bool (je g.refs i))∧Below w.heap.size w w':=by
 obtain⟨b0,off,cap,er,hb0⟩:=wR h.here ha;obtain⟨na,ea,la⟩:=yC ha;obtain⟨nb,eb,lb⟩:=yC hb;obtain⟨nc,ec,lc⟩:=yC hc;have ta:=h.here.rlies.bit er na la;have tb:=h.here.rlies.bit er nb lb;have tc:=h.here.rlies.bit er nc lc;have hr:je g.refs i=(inB i.o 1 14 && (!zm g.refs i.a && ((zm g.refs i.b==zm g.refs i.c) && (!zm g.refs i.b || (decide (i.o=11) || decide (i.o=12)))))):=rfl;have hq:=h.box;rw[er]at hq;obtain⟨q0,q1,q2,q3,q4⟩:=zx hq;have hlc:=h.lt.1;have hlb:b0<w.heap.size:=by have:=h.base.2.2.2;omega
 obtain⟨k,op,a,b,cc,n⟩:=i;simp only at *;subst ea eb ec;obtain⟨NR,hNR⟩:∃ N,N=g.refs.length:=⟨_,rfl⟩
 rw[←hNR]at q0 la lb lc;have hroom:NR≤140737488351232:=by rw[hNR];exact h.here.rlies.room
 generalize hxa:zm g.refs (na:Int)=xa at ta hr;generalize hxb:zm g.refs (nb:Int)=xb at tb hr;generalize hxc:zm g.refs (nc:Int)=xc at tc hr;have hem:=z1l op;generalize hy:inB op 1 14=y at hr hem;have HCN:=hid (fun w=>z1m op w);generalize jL op=nm at HCN hem;have HR:=hid hr;clear h hr hq er hNR ha hb hc hxa hxb hxc hy;cases y
 · go_enter Tryz.func261,Tryz.ntmps261
   go_wp2_with fail
   go_quiet ((go_at_call 269;exact Calls.quiet_of_same ((HCN.out _).mono fun e w1 hh=>⟨hh.1,hh.2.symm⟩)))
   go_wp2_with fail;go_ret;exact⟨by rw[HR.out];rfl,below_drewN (ze w _) _⟩
 cases xa
 rotate_left
 · go_enter Tryz.func261,Tryz.ntmps261
   go_wp2_with fail
   go_quiet ((go_at_call 269;exact Calls.quiet_of_same ((HCN.out _).mono fun e w1 hh=>⟨hh.1,hh.2.symm⟩)))
   go_wp2_with fail;go_ret;exact⟨by rw[HR.out];rfl,below_drewN (ze w _) _⟩
 cases xb <;> cases xc
 case false.true =>
  go_enter Tryz.func261,Tryz.ntmps261;go_wp2_with fail
  go_quiet ((go_at_call 269;exact Calls.quiet_of_same ((HCN.out _).mono fun e w1 hh=>⟨hh.1,hh.2.symm⟩)))
  go_wp2_with fail;go_ret;exact⟨by rw[HR.out];rfl,below_drewN (ze w _) _⟩
 case true.false =>
  go_enter Tryz.func261,Tryz.ntmps261;go_wp2_with fail
  go_quiet ((go_at_call 269;exact Calls.quiet_of_same ((HCN.out _).mono fun e w1 hh=>⟨hh.1,hh.2.symm⟩)))
  go_wp2_with fail;go_ret;exact⟨by rw[HR.out];rfl,below_drewN (ze w _) _⟩
 case false.false =>
  go_enter Tryz.func261,Tryz.ntmps261;go_wp2_with fail
  go_quiet ((go_at_call 269;exact Calls.quiet_of_same ((HCN.out _).mono fun e w1 hh=>⟨hh.1,hh.2.symm⟩)))
  go_wp2_with fail
  go_quiet (fail)
  go_wp2_with fail;go_ret;exact⟨by rw[HR.out];rfl,below_drewN (below_drewN (ze w _) _) _⟩
 by_cases h11:op=11
 · subst h11
   go_enter Tryz.func261,Tryz.ntmps261;go_wp2_with fail
   go_quiet ((go_at_call 269;exact Calls.quiet_of_same ((HCN.out _).mono fun e w1 hh=>⟨hh.1,hh.2.symm⟩)))
   go_wp2_with fail
   go_quiet (fail)
   go_wp2_with fail;go_ret;exact⟨by rw[HR.out];rfl,below_drewN (below_drewN (ze w _) _) _⟩
 by_cases h12:op=12
 · subst h12
   go_enter Tryz.func261,Tryz.ntmps261;go_wp2_with fail
   go_quiet ((go_at_call 269;exact Calls.quiet_of_same ((HCN.out _).mono fun e w1 hh=>⟨hh.1,hh.2.symm⟩)))
   go_wp2_with fail
   go_quiet (fail)
   go_wp2_with fail;go_ret;exact⟨by rw[HR.out];rfl,below_drewN (below_drewN (ze w _) _) _⟩
 have b11:(op==11)=false:=by simpa using h11
 have b12:(op==12)=false:=by simpa using h12
 rw[decide_eq_false h11,decide_eq_false h12]at HR;clear h11 h12;go_enter Tryz.func261,Tryz.ntmps261;go_wp2_with fail
 go_quiet ((go_at_call 269;exact Calls.quiet_of_same ((HCN.out _).mono fun e w1 hh=>⟨hh.1,hh.2.symm⟩)))
 go_wp2_with fail
 go_quiet (fail)
 go_wp2_with fail;go_ret;exact⟨by rw[HR.out];rfl,below_drewN (below_drewN (ze w _) _) _⟩
theorem z1r (B c m:Nat) (g:Gr) (W:Int) (M:List Bool) (k:Int) (w:World) (h:zP w B c m g W M) :
 Calls Tryz.prog 264 #[.pointer (some ⟨c,0,none⟩),.int .i64 k] w fun e w'=>e = .returned (.bool (xY g.blocks.length k))∧w=w':=by
 obtain⟨ao,cap,eb,-,-⟩:=h.here.blies.form;have hq:=h.box;rw[eb]at hq;obtain⟨q0,q1,q2,q3,q4⟩:=zx hq;have hr:xY g.blocks.length k=(decide (0≤k) && decide (k<g.blocks.length)):=rfl;generalize g.blocks.length=nb at *;clear h hq
 by_cases h1:0≤k <;> by_cases h2:k<nb
 all_goals
  first|rw[decide_eq_true h1]at hr|rw[decide_eq_false h1]at hr
  first|rw[decide_eq_true h2]at hr|rw[decide_eq_false h2]at hr
  have HR:=hid hr;clear hr;go_enter Tryz.func264,Tryz.ntmps264;go_wp2_with fail;go_ret;exact⟨by rw[HR.out];rfl,rfl⟩
theorem zP.marked {w:World} {B c m:Nat} {g:Gr} {W:Int} {M:List Bool} (h:zP w B c m g W M) (k:Nat):zP (w.setCell ⟨m,k,none⟩ (.bool true)) B c m g W (M.set k true):=by
 have hb:∀ j,j≠m→(w.setCell ⟨m,k,none⟩ (.bool true)).heap[j]? = w.heap[j]?:=fun j hj=>Below.heap_setCell _ _ _ _ hj
 have hbel:Below B w (w.setCell ⟨m,k,none⟩ (.bool true)):=(Below.refl B w).setCell h.base.2.1 _;refine⟨by rw[hb c h.base.2.2.1,List.length_set];exact h.box, ?_,h.here.keeps hbel,⟨h.base.1,h.base.2.1,h.base.2.2.1,Nat.le_trans h.base.2.2.2 hbel.size⟩,h.words,by rw[List.length_set];exact h.many⟩;simp only[World.setCell,Array.getElem?_modify,if_true,h.made];simp
def mkM (M:List Bool) (s:Int):List Bool:=if wM M s=true then M.set s.toNat true else M
theorem ug {M:List Bool} {s:Int} (h:wM M s=false):mkM M s=M:=by unfold mkM;rw[h];rfl
theorem Q7 {M:List Bool} {s:Int} (h:wM M s=true):mkM M s=M.set s.toNat true:=by unfold mkM;rw[h];rfl
theorem Qn (B c m:Nat) (g:Gr) (W:Int) (M:List Bool) (s:Int) (w:World) (h:zP w B c m g W M) :
 Calls Tryz.prog 263 #[.pointer (some ⟨c,0,none⟩),.int .i64 s] w fun e w'=>e = .returned (.bool (wM M s))∧zP w' B c m g W (mkM M s)∧Aside m w w':=by
 obtain⟨q0,q1,q2,q3,q4⟩:=zx h.box;have hr:wM M s=(decide (0≤s) && (decide (s<M.length) && !zm M s)):=rfl;have hmany:=h.many;have HF:=hid (fun (k:Nat)=>Lib.frozen_of_heap h.made k);have hm:=h.lt.2;have H:=hid h;have HM:=hid (fun (k:Nat)=>h.marked k)
 have hcell:∀ k:Nat,k<M.length→w.cell? ⟨m,k,none⟩ = some (.bool (zm M (k:Int))):=by
  intro k hk;rw[Lib.cell_of_heap h.made];unfold zm;rw[Int.toNat_natCast];simp[hk]
 obtain⟨N,hN⟩:∃ N,N=M.length:=⟨_,rfl⟩
 rw[←hN]at q4 hr hcell hmany;clear h hN
 by_cases h1:0≤s
 rotate_left
 · rw[decide_eq_false h1]at hr
   have HR:=hid hr;clear hr hcell;go_enter Tryz.func263,Tryz.ntmps263;go_wp2_with fail;go_ret;exact⟨by rw[HR.out];rfl,by rw[ug (HR.out.trans rfl)];exact H.out,Aside.refl _ _⟩
 obtain⟨k,rfl⟩:∃ k:Nat,s=(k:Int):=⟨s.toNat,by omega⟩
 by_cases h2:(k:Int)<N
 rotate_left
 · rw[decide_eq_true h1,decide_eq_false h2]at hr
   have HR:=hid hr;clear hr hcell;go_enter Tryz.func263,Tryz.ntmps263;go_wp2_with fail;go_ret;exact⟨by rw[HR.out];rfl,by rw[ug (HR.out.trans rfl)];exact H.out,Aside.refl _ _⟩
 have hkN:k<N:=by omega
 have hc:=hcell k hkN;have hfz:=HF.out k;rw[decide_eq_true h1,decide_eq_true h2]at hr;generalize zm M (k:Int)=x at hr hc;have HR:=hid hr;clear hr hcell;cases x
 · go_enter Tryz.func263,Tryz.ntmps263
   go_wp2_with fail;go_ret;exact⟨by rw[HR.out];rfl,by rw[Q7 (HR.out.trans rfl)];exact HM.out k,(Aside.refl _ _).set _ _⟩
 · go_enter Tryz.func263,Tryz.ntmps263
   go_wp2_with fail;go_ret;exact⟨by rw[HR.out];rfl,by rw[ug (HR.out.trans rfl)];exact H.out,Aside.refl _ _⟩
def xJ (z:Nat) (w W:World):Prop:=∀ k,k<w.heap.size→k≠z→W.heap[k]? = w.heap[k]?
theorem xJ.drew (z:Nat) (w:World):xJ z w w.drew:=fun _ _ _=>rfl
theorem xJ.cell {z:Nat} {w W:World} (h:xJ z w W) {p:Addr} {v:Value} (hp:p.block<w.heap.size∧p.block≠z) (hc:w.cell? p=some v):W.cell? p=some v:=by
 unfold World.cell? at *;rw[h _ hp.1 hp.2];exact hc
theorem Aside.same {m:Nat} {w w':World} (h:Aside m w w'):xJ m w w':=fun k hk hm=>h.block k hk hm
theorem xJ.trans {z:Nat} {a b c:World} (h:xJ z a b) (k:xJ z b c) (hs:a.heap.size≤b.heap.size):xJ z a c:=fun i hi hz=>(k i (by omega) hz).trans (h i hi hz)
theorem Uv {R:List Bool} {W:Int} {M:List Bool} {i:In} (hk:i.k=7):zu R W M i=(zm R i.a && (inB i.n 1 64 && wM M i.c)):=by
 unfold zu;simp[hk]
theorem ZP {R:List Bool} {W:Int} {M:List Bool} {i:In} (h:zu R W M i=false):xC R W M i=M:=by
 unfold xC;rw[if_neg];rw[h];exact fun q=>by cases q.2
theorem VY {R:List Bool} {W:Int} {M:List Bool} {i:In} (hk:i.k=7) (h:zu R W M i=wM M i.c):xC R W M i=mkM M i.c:=by
 unfold xC mkM;rw[h]
 by_cases hm:wM M i.c=true
 · rw[if_pos ⟨hk,hm⟩,if_pos hm]
 · rw[if_neg (fun q=>hm q.2),if_neg hm]
theorem ZJ {R:List Bool} {W:Int} {M:List Bool} {i:In} (hk:¬ i.k=7):xC R W M i=M:=by
 unfold xC;rw[if_neg (fun q=>hk q.1)]
theorem fits7 (B c m:Nat) (g:Gr) (W:Int) (M:List Bool) (i:In) (w:World) (h:zP w B c m g W M) (hk:i.k=7) (ha:zg g.refs i.a=true) :
 Calls Tryz.prog 252 #[.pointer (some ⟨c,0,none⟩),.agg #[.int .u8 i.k,.int .u8 i.o,.int .i64 i.a,.int .i64 i.b,.int .i64 i.c,.int .i64 i.n]] w fun e w'=>e = .returned (.bool (zu g.refs W M i))∧zP w' B c m g W (xC g.refs W M i)∧Aside m w w':=by
 obtain⟨b0,off,cap,er,hb0⟩:=wR h.here ha;obtain⟨na,ea,la⟩:=yC ha;have ta:=h.here.rlies.bit er na la;have hr:=Uv (R:=g.refs) (W:=W) (M:=M) hk;have HNO:=hid (ZP (R:=g.refs) (W:=W) (M:=M) (i:=i));have HMK:=hid (VY (R:=g.refs) (W:=W) (M:=M) (i:=i) hk);obtain⟨F,hF⟩:∃ F,F=zu g.refs W M i:=⟨_,rfl⟩
 obtain⟨NM,hNM⟩:∃ F,F=xC g.refs W M i:=⟨_,rfl⟩
 rw[←hF]at hr HNO HMK ⊢;rw[←hNM]at HNO HMK ⊢;obtain⟨k,op,a,b,cc,n⟩:=i;simp only at *;subst hk ea;obtain⟨W1,hW1⟩:∃ W1,W1=w.alloc (.cells #[.int .u8 7,.int .u8 op,.int .i64 (na:Int),.int .i64 b,.int .i64 cc,.int .i64 n] 159):=⟨_,rfl⟩
 have hb1:Below w.heap.size w W1:=by rw[hW1];exact ze w _
 have hz1:W1.heap.size=w.heap.size+1:=by rw[hW1];simp
 have h1:=h.keeps hb1;have hO:W1.heap[w.heap.size]? = some (.cells #[.int .u8 7,.int .u8 op,.int .i64 (na:Int),.int .i64 b,.int .i64 cc,.int .i64 n] 159 (0,0)):=by rw[hW1];exact (MapKept.heap_alloc _ _).1
 obtain⟨k0,k1,k2,k3,k4,k5⟩:=zl hO;have hq:=h1.box;rw[er]at hq;obtain⟨q0,q1,q2,q3,q4⟩:=zx hq;have t0:W1.cell? ⟨b0,off+na,none⟩ = some (.bool (zm g.refs (na:Int))):=by rw[hb1.cell (p:=⟨b0,_,none⟩) (by have:=h.base.2.2.2;dsimp only;omega)];exact ta
 have hlc:=h.lt.1;have hlm:=h.lt.2;have hcm:=h.base.2.2.1;have hlb:b0<w.heap.size:=by have:=h.base.2.2.2;omega
 have hbm:b0<m:=by have:=h.base.2.1;omega
 obtain⟨NR,hNR⟩:∃ N,N=g.refs.length:=⟨_,rfl⟩
 rw[←hNR]at q0 la;have hroom:NR≤140737488351232:=by rw[hNR];exact h.here.rlies.room
 generalize zm g.refs (na:Int)=xa at t0 hr;generalize hy:inB n 1 64=y at hr;have HR:=hid hr;have HWI:=hid (fun w=>qE n 1 64 w);rw[hy]at HWI;have HMA:=hid (fun (u:World) (hu:Below W1.heap.size W1 u)=>Qn B c m g W M cc u (h1.keeps hu));have HCK:=hid (fun (u:World) (hu:Below W1.heap.size W1 u)=>h1.keeps hu);have HB:=hid hb1;have HW:=hid hW1;have HT:=hid hF;have HQ:=hid q0;rw[hW1]at k0;clear h h1 hr hq er hNR ha hy hb1 hO hF ta hNM hW1;cases xa
 · have HN:=HNO.out (by rw[HR.out];rfl)
   go_enter Tryz.func252,Tryz.ntmps252;go_wp2_with fail;rw[←HW.out];refine wp_region_held_drew (S:=xJ m W1) (by kernel_rfl) (xJ.drew _ _) (fun hSw=>?_);refine tH 0 (.pointer (some ⟨c,0,none⟩)) hSw ?_;(try simp only[nS]);refine tH 1 (.pointer (some ⟨c,0,none⟩)) hSw ?_;(try simp only[nS]);refine tH 2 (.pointer (some ⟨c,0,none⟩)) hSw ?_;(try simp only[nS]);refine tH 3 (.pointer (some ⟨c,0,none⟩)) hSw ?_;(try simp only[nS]);refine tG 4 (.slice (some ⟨b0,off,none⟩) NR cap) hSw (fun W hW=>?_) ?_
   · have q0:=hW.cell (by dsimp only;omega) q0
     first|(go_simp;done)|rfl
   (try simp only[nS]);refine tH 5 (.pointer (some ⟨w.heap.size,2,none⟩)) hSw ?_;(try simp only[nS]);refine tG 6 (.int .i64 (na:Int)) hSw (fun W hW=>?_) ?_
   · have k2:=hW.cell (by dsimp only;omega) k2
     first|(go_simp;done)|rfl
   (try simp only[nS]);refine tH 7 (.pointer (some ⟨b0,off+na,none⟩)) hSw ?_;(try simp only[nS]);refine tG 8 (.bool false) hSw (fun W hW=>?_) ?_
   · have t0:=hW.cell (by dsimp only;omega) t0
     first|(go_simp;done)|rfl
   (try simp only[nS]);refine tH 9 (.bool false) hSw ?_;(try simp only[nS]);refine tN 10 hSw ?_;(try simp only[nS]);refine tN 11 hSw ?_;(try simp only[nS]);refine tN 12 hSw ?_;(try simp only[nS]);refine tH 13 (.bool false) hSw ?_;(try simp only[nS]);refine tH 14 (.bool false) hSw ?_;(try simp only[nS]);refine tN 15 hSw ?_;(try simp only[nS]);refine tN 16 hSw ?_;(try simp only[nS]);refine tN 17 hSw ?_;(try simp only[nS]);refine tN 18 hSw ?_;(try simp only[nS]);refine tH 19 (.bool false) hSw ?_;(try simp only[nS]);refine tH 20 (.bool false) hSw ?_;(try simp only[nS]);refine wpAnyH_done (by kernel_rfl) ?_ _;go_wp2_with fail;go_ret;have hbd:Below W1.heap.size W1 W1.drew:=below_drewN (Below.refl _ _) 1;exact⟨by rw[HR.out];rfl,by rw[HN];exact HCK.out _ hbd,(Aside.of HB.out).drew⟩
 cases y
 · have HN:=HNO.out (by rw[HR.out];rfl)
   go_enter Tryz.func252,Tryz.ntmps252;go_wp2_with fail;rw[←HW.out];refine wp_region_held_drew (S:=xJ m W1) (by kernel_rfl) (xJ.drew _ _) (fun hSw=>?_);refine tH 0 (.pointer (some ⟨c,0,none⟩)) hSw ?_;(try simp only[nS]);refine tH 1 (.pointer (some ⟨c,0,none⟩)) hSw ?_;(try simp only[nS]);refine tH 2 (.pointer (some ⟨c,0,none⟩)) hSw ?_;(try simp only[nS]);refine tH 3 (.pointer (some ⟨c,0,none⟩)) hSw ?_;(try simp only[nS]);refine tG 4 (.slice (some ⟨b0,off,none⟩) NR cap) hSw (fun W hW=>?_) ?_
   · have q0:=hW.cell (by dsimp only;omega) q0
     first|(go_simp;done)|rfl
   (try simp only[nS]);refine tH 5 (.pointer (some ⟨w.heap.size,2,none⟩)) hSw ?_;(try simp only[nS]);refine tG 6 (.int .i64 (na:Int)) hSw (fun W hW=>?_) ?_
   · have k2:=hW.cell (by dsimp only;omega) k2
     first|(go_simp;done)|rfl
   (try simp only[nS]);refine tH 7 (.pointer (some ⟨b0,off+na,none⟩)) hSw ?_;(try simp only[nS]);refine tG 8 (.bool true) hSw (fun W hW=>?_) ?_
   · have t0:=hW.cell (by dsimp only;omega) t0
     first|(go_simp;done)|rfl
   (try simp only[nS]);refine tH 9 (.bool true) hSw ?_;(try simp only[nS]);refine tH 10 (.pointer (some ⟨w.heap.size,5,none⟩)) hSw ?_;(try simp only[nS]);refine tG 11 (.int .i64 n) hSw (fun W hW=>?_) ?_
   · have k5:=hW.cell (by dsimp only;omega) k5
     first|(go_simp;done)|rfl
   (try simp only[nS]);refine tR 12 (fun K hK=>?_);clear hSw;go_simp
   go_at_call 262
   refine (HWI.out _).mono ?_;rintro e w2 ⟨rfl,rfl⟩;refine hK.out _ _ (xJ.drew _ _) (fun hSw=>?_);clear hK K;(try simp only[nS]);refine tH 13 (.bool false) hSw ?_;(try simp only[nS]);refine tH 14 (.bool false) hSw ?_;(try simp only[nS]);refine tN 15 hSw ?_;(try simp only[nS]);refine tN 16 hSw ?_;(try simp only[nS]);refine tN 17 hSw ?_;(try simp only[nS]);refine tN 18 hSw ?_;(try simp only[nS]);refine tH 19 (.bool false) hSw ?_;(try simp only[nS]);refine tH 20 (.bool false) hSw ?_;(try simp only[nS]);refine wpAnyH_done (by kernel_rfl) ?_ _;go_wp2_with fail;go_ret;have hbd:Below W1.heap.size W1 W1.drew:=below_drewN (Below.refl _ _) 1;exact⟨by rw[HR.out];rfl,by rw[HN];exact HCK.out _ hbd,(Aside.of HB.out).drew⟩
 have HN:=HMK.out (by rw[HR.out];rfl);go_enter Tryz.func252,Tryz.ntmps252;go_wp2_with fail;rw[←HW.out];refine wp_region_held_drew (S:=xJ m W1) (by kernel_rfl) (xJ.drew _ _) (fun hSw=>?_);refine tH 0 (.pointer (some ⟨c,0,none⟩)) hSw ?_;(try simp only[nS]);refine tH 1 (.pointer (some ⟨c,0,none⟩)) hSw ?_;(try simp only[nS]);refine tH 2 (.pointer (some ⟨c,0,none⟩)) hSw ?_;(try simp only[nS]);refine tH 3 (.pointer (some ⟨c,0,none⟩)) hSw ?_;(try simp only[nS]);refine tG 4 (.slice (some ⟨b0,off,none⟩) NR cap) hSw (fun W hW=>?_) ?_
 · have q0:=hW.cell (by dsimp only;omega) q0
   first|(go_simp;done)|rfl
 (try simp only[nS]);refine tH 5 (.pointer (some ⟨w.heap.size,2,none⟩)) hSw ?_;(try simp only[nS]);refine tG 6 (.int .i64 (na:Int)) hSw (fun W hW=>?_) ?_
 · have k2:=hW.cell (by dsimp only;omega) k2
   first|(go_simp;done)|rfl
 (try simp only[nS]);refine tH 7 (.pointer (some ⟨b0,off+na,none⟩)) hSw ?_;(try simp only[nS]);refine tG 8 (.bool true) hSw (fun W hW=>?_) ?_
 · have t0:=hW.cell (by dsimp only;omega) t0
   first|(go_simp;done)|rfl
 (try simp only[nS]);refine tH 9 (.bool true) hSw ?_;(try simp only[nS]);refine tH 10 (.pointer (some ⟨w.heap.size,5,none⟩)) hSw ?_;(try simp only[nS]);refine tG 11 (.int .i64 n) hSw (fun W hW=>?_) ?_
 · have k5:=hW.cell (by dsimp only;omega) k5
   first|(go_simp;done)|rfl
 (try simp only[nS]);refine tR 12 (fun K hK=>?_);clear hSw;go_simp
 go_at_call 262
 refine (HWI.out _).mono ?_;rintro e w2 ⟨rfl,rfl⟩;refine hK.out _ _ (xJ.drew _ _) (fun hSw=>?_);clear hK K;(try simp only[nS]);refine tH 13 (.bool true) hSw ?_;(try simp only[nS]);refine tH 14 (.bool true) hSw ?_;(try simp only[nS]);refine tH 15 (.pointer (some ⟨c,0,none⟩)) hSw ?_;(try simp only[nS]);refine tH 16 (.pointer (some ⟨w.heap.size,4,none⟩)) hSw ?_;(try simp only[nS]);refine tG 17 (.int .i64 cc) hSw (fun W hW=>?_) ?_
 · have k4:=hW.cell (by dsimp only;omega) k4
   first|(go_simp;done)|rfl
 (try simp only[nS]);refine tR 18 (fun K hK=>?_);clear hSw;go_simp;have hbd:Below W1.heap.size W1 W1.drew:=below_drewN (Below.refl _ _) 1
 go_at_call 263
 refine (HMA.out _ hbd).mono ?_;rintro e w2 ⟨rfl,hc2,ha2⟩;have HC2:=hid hc2;have HA2:=hid ha2;clear hc2 ha2;refine hK.out _ _ ((xJ.drew _ _).trans HA2.out.same (Nat.le_refl _)) (fun hSw=>?_);clear hK K;(try simp only[nS]);refine tH 19 (.bool (wM M cc)) hSw ?_;(try simp only[nS]);refine tH 20 (.bool (wM M cc)) hSw ?_;(try simp only[nS]);refine wpAnyH_done (by kernel_rfl) ?_ _;go_wp2_with fail;go_ret;exact⟨by rw[HR.out];rfl,by rw[HN];exact HC2.out,(Aside.of HB.out).drew.trans HA2.out⟩
