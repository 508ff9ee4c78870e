/- A region that draws its order: what yields its value in every world that meets S may be taken first; S may grow. -/
import Derived.Test.YtgkjhnghibpeoaaDoorEv9
import Derived.OrdersIn
import Derived.RangeFuncLeaves
import Derived.RangeFuncCalls
namespace Go.Ev
noncomputable section
open Go Go.RowKit
section
variable {F : Fence} {n : Nat} {P : Program} {ops : Array Oper} {Q : Exit → Act → World → Prop} {md : Region.Mode} {S : World → Prop}

def noDefer (ops : Array Oper) : Bool := ops.toList.all fun o => match o.op with | .defer _ => false | _ => true
theorem noDefer_spec (h : noDefer ops = true) (j : Nat) (o : Oper) (ho : ops[j]? = some o) : ∀ c, o.op ≠ .defer c := by
  intro c e
  have := List.all_eq_true.1 h o (by simpa using Array.mem_of_getElem? ho)
  simp [e] at this
theorem upon_put {oi oj : Oper} {v : Value} (hF : ∀ f, F.fn f) (hd : ∀ c, oj.op ≠ .defer c) (h1 : ∀ d, oi.dst = some d → d ∉ oj.looksAt ops) (h2 : ∀ d, oi.dst = some d → oj.dst ≠ some d) (h3 : ∀ d, oj.dst = some d → d ∉ oi.looksAt ops)
    (hsi : ∀ cs b, oi.op ≠ .select cs b) (hsj : ∀ cs b, oj.op ≠ .select cs b) (hQ : ∀ c a w, Q (.panic c) (a.put oi.dst v) w → Q (.panic c) a w) {K : Act → World → Prop} {a : Act} {w : World}
    (hy : YieldsIf P ops S oi v a) (h : oj.wpIn F n P (a.put oi.dst v) w K Q) : oj.wpIn F n P a w (fun a' w' => YieldsIf P ops S oi v a' ∧ K (a'.put oi.dst v) w') Q := by
  have keep : ∀ (a : Act), YieldsIf P ops S oi v a → ∀ u, YieldsIf P ops S oi v (a.put oj.dst u) := fun a hy u =>
    hy.of_same (execOp_put oi hsi a oj.dst u h3) (wanted_put oi a oj.dst u h3)
  have keepD : ∀ d, YieldsIf P ops S oi v { a with defers := d :: a.defers } := fun d => hy.of_same rfl rfl
  unfold Oper.wpIn at *
  refine ⟨fun f _ => hF f, ?_⟩
  have h := h.2
  rw [Oper.semAt_eq _ _ _ hd, execOp_put oj hsj a oi.dst v h1] at h
  rw [Oper.semAt_eq _ _ _ hd]
  generalize (execOp a.eval oj).run P w = r at *
  cases r with
  | ok x w' =>
    cases x <;> simp only [Oper.uponIn] at h ⊢
    case value u => exact ⟨keep a hy u, by rw [← Act.put_comm a v u h2]; exact h⟩
    case skip => exact ⟨keep a hy _, by rw [← Act.put_comm a v undef h2]; exact h⟩
    case defer d =>
      refine ⟨keep _ (keepD d) _, ?_⟩
      rw [← Act.put_comm _ v undef h2, ← Act.put_defers]
      exact h
    case enter f args =>
      refine ⟨h.1, CallsIn.mono h.2 fun e w'' he => ?_⟩
      cases e with
      | returned u => exact ⟨keep a hy u, by rw [← Act.put_comm a v u h2]; exact he⟩
      | panicked c => exact hQ _ _ _ he
      | outgrown => exact he
    case row row args => exact ⟨h.1, RowsIn.mono h.2 fun u w'' he => ⟨keep a hy u, by rw [← Act.put_comm a v u h2]; exact he⟩⟩
    case round l f tmps assign body =>
      refine ⟨h.1, RoundIn.mono h.2 fun e w'' he => ?_⟩
      cases e with
      | returned u => exact ⟨keep a hy u, by rw [← Act.put_comm a v u h2]; exact he⟩
      | panicked c => exact hQ _ _ _ he
      | outgrown => exact he
  | halt x w' =>
    cases x <;> simp only [Oper.uponIn] at h ⊢
    case panic u => exact hQ _ _ _ h
theorem yif_wpOpIn {i : Nat} {o : Oper} {v : Value} {a : Act} (hF : ∀ f, F.fn f) (hd : ∀ c, o.op ≠ .defer c) (hi : ops[i]? = some o) (hy : YieldsIf P ops S o v a)
    {K : Act → World → Prop} {w : World} (hS : S w) (h : K (a.put o.dst v) w) : wpOpIn F n P ops Q i K a w := by
  unfold Go.wpOpIn
  simp only [hi]
  rcases hy with ⟨hw, hv⟩ | ⟨hw, rfl⟩
  · simp only [hw, if_true, Oper.wpIn, Oper.semAt_eq _ _ _ hd, hv w hS, Oper.uponIn]; exact ⟨fun f _ => hF f, h⟩
  · simp only [hw, Bool.false_eq_true, if_false]; exact ⟨fun f _ => hF f, h⟩
theorem wpOpIn_putIf {j : Nat} {oi oj : Oper} {v : Value} (hF : ∀ f, F.fn f) (hd : ∀ c, oj.op ≠ .defer c) (hj : ops[j]? = some oj) (hap : oi.apart ops oj = true)
    (hsi : ∀ cs b, oi.op ≠ .select cs b) (hsj : ∀ cs b, oj.op ≠ .select cs b)
    (hQ : ∀ c a w, Q (.panic c) (a.put oi.dst v) w → Q (.panic c) a w) {K : Act → World → Prop} {a : Act} {w : World}
    (hy : YieldsIf P ops S oi v a) (h : wpOpIn F n P ops Q j K (a.put oi.dst v) w) :
    wpOpIn F n P ops Q j (fun a' w' => YieldsIf P ops S oi v a' ∧ K (a'.put oi.dst v) w') a w := by
  obtain ⟨h1, h2, h3⟩ := Oper.apart_spec hap
  unfold wpOpIn at *
  simp only [hj] at *
  rw [wanted_put oj a oi.dst v h1] at h
  split
  · rename_i hw
    simp only [hw, if_true] at h
    exact upon_put hF hd h1 h2 h3 hsi hsj hQ hy h
  · rename_i hw
    simp only [hw] at h
    exact ⟨fun f _ => hF f, hy.of_same (execOp_put oi hsi a oj.dst undef h3) (wanted_put oi a oj.dst undef h3), by rw [← Act.put_comm a v undef h2]; exact h.2⟩

/-- Operation j waits for operation i, directly or by others. -/
def Edg (md : Region.Mode) (ops : Array Oper) (j i : Nat) : Prop := ∃ o e, ops[j]? = some o ∧ e ∈ o.after ∧ Region.binds md e = true ∧ e.on = i
inductive TC (md : Region.Mode) (ops : Array Oper) : Nat → Nat → Prop
  | one {j i : Nat} (h : Edg md ops j i) : TC md ops j i
  | step {j m i : Nat} (h : Edg md ops j m) (h' : TC md ops m i) : TC md ops j i
def Closed (md : Region.Mode) (ops : Array Oper) (listed : Array Bool) : Prop := ∀ j i, listed.getD j false = true → Edg md ops j i → listed.getD i false = true
theorem Closed.tc {listed : Array Bool} (h : Closed md ops listed) {j i : Nat} (hj : listed.getD j false = true) (ht : TC md ops j i) : listed.getD i false = true := by
  induction ht with
  | one e => exact h _ _ hj e
  | step e _ ih => exact ih (h _ _ hj e)
theorem ready_edg {listed : Array Bool} {j i : Nat} (hr : j ∈ Region.ready md ops listed) (he : Edg md ops j i) : listed.getD i false = true := by
  obtain ⟨_, o, ho, hall⟩ := mem_ready.1 hr
  obtain ⟨o', e, h1, h2, h3, rfl⟩ := he
  rw [ho] at h1
  cases h1
  exact hall e h2 h3
theorem ready_tc {listed : Array Bool} (h : Closed md ops listed) {j i : Nat} (hr : j ∈ Region.ready md ops listed) (ht : TC md ops j i) : listed.getD i false = true := by
  cases ht with
  | one e => exact ready_edg hr e
  | step e h' => exact h.tc (ready_edg hr e) h'
theorem Closed.set {listed : Array Bool} (h : Closed md ops listed) {j : Nat} (hr : j ∈ Region.ready md ops listed) : Closed md ops (listed.setIfInBounds j true) := by
  intro k i hk he
  refine getD_set_true ?_
  by_cases hkj : k = j
  · subst hkj; exact ready_edg hr he
  · rw [getD_set_ne false (Ne.symm hkj)] at hk
    exact h k i hk he
theorem Closed.nil (n : Nat) : Closed md ops (Array.replicate n false) := by
  intro j i hj _
  by_cases h : j < n <;> simp [h] at hj

/-- Behind an operation that may write, what waits for it need no longer stand. -/
def dropT (md : Region.Mode) (ops : Array Oper) (eff : Nat → Bool) (i : Nat) (T : Nat → World → Prop) : Nat → World → Prop := fun k w => (eff i = true ∧ TC md ops i k) ∨ T k w
def wpAnyHIn (F : Fence) (n : Nat) (P : Program) (md : Region.Mode) (ops : Array Oper) (Q : Exit → Act → World → Prop) (eff : Nat → Bool) : (Nat → World → Prop) → Nat → Array Bool → Act → World → Prop
  | _, 0, listed, a, w => Region.ready md ops listed = [] ∧ Q .normal a w
  | T, fuel + 1, listed, a, w =>
    (Region.ready md ops listed = [] → Q .normal a w) ∧
    ∀ i ∈ Region.ready md ops listed, wpOpIn F n P ops Q i (fun a' w' => (∀ k, ¬ TC md ops i k → T k w → T k w') ∧ wpAnyHIn F n P md ops Q eff (dropT md ops eff i T) fuel (listed.setIfInBounds i true) a' w') a w
theorem anyIn_of_held {eff : Nat → Bool} : ∀ (fuel : Nat) {T : Nat → World → Prop} (listed : Array Bool) (a : Act) (w : World), wpAnyHIn F n P md ops Q eff T fuel listed a w → wpAnyIn F n P md ops Q fuel listed a w
  | 0, _, _, _, _, h => h
  | fuel + 1, _, _, _, _, h => ⟨h.1, fun i hi => wpOpIn_mono (fun a' w' h' => anyIn_of_held fuel _ a' w' h'.2) (h.2 i hi)⟩
/-- T may grow on the way. -/
theorem held_weaken {eff : Nat → Bool} : ∀ (fuel : Nat) {T T' : Nat → World → Prop} (_ : ∀ k, (∀ w, T' k w ↔ T k w) ∨ ∀ w, T k w) (listed : Array Bool) (a : Act) (w : World), wpAnyHIn F n P md ops Q eff T' fuel listed a w → wpAnyHIn F n P md ops Q eff T fuel listed a w
  | 0, _, _, _, _, _, _, h => h
  | fuel + 1, T, T', hs, _, _, _, h => ⟨h.1, fun i hi => wpOpIn_mono (fun a' w' h' => ⟨fun k hk ht => (hs k).elim (fun e => (e w').1 (h'.1 k hk ((e _).2 ht))) (fun f => f w'),
      held_weaken fuel (fun k => (hs k).imp (fun e w => by unfold dropT; rw [e w]) (fun f w => .inr (f w))) _ a' w' h'.2⟩) (h.2 i hi)⟩
theorem anyHIn_first {eff : Nat → Bool} {i : Nat} {oi : Oper} {v : Value} (hF : ∀ f, F.fn f) (hdf : noDefer ops = true) (hi : ops[i]? = some oi) (he : eff i = false) (hsel : ∀ (j : Nat) (o : Oper) cs b, ops[j]? = some o → o.op ≠ .select cs b)
    (hQ : ∀ c a w, Q (.panic c) (a.put oi.dst v) w → Q (.panic c) a w) :
    ∀ (fuel : Nat) (T : Nat → World → Prop) (listed : Array Bool) (a : Act) (w : World), Closed md ops listed →
      (∀ j oj, ops[j]? = some oj → j ≠ i → listed.getD j true = false → (∀ e ∈ oj.after, Region.binds md e = true → e.on ≠ i) → oi.apart ops oj = true) →
      i ∈ Region.ready md ops listed → YieldsIf P ops (T i) oi v a → T i w →
      wpAnyHIn F n P md ops Q eff T fuel (listed.setIfInBounds i true) (a.put oi.dst v) w → wpAnyHIn F n P md ops Q eff T (fuel + 1) listed a w := by
  intro fuel
  have hdrop : ∀ T, dropT md ops eff i T = T := fun T => by
    funext k w
    unfold dropT
    rw [he]
    simp
  induction fuel with
  | zero =>
    intro T listed a w _ _ hr hy hS H
    refine ⟨fun h => (by rw [h] at hr; cases hr), fun j hj => ?_⟩
    by_cases hji : j = i
    · subst hji; exact yif_wpOpIn hF (noDefer_spec hdf j oi hi) hi hy hS ⟨fun k _ h => h, by rw [hdrop]; exact H⟩
    · have := ready_mono hj hji
      rw [H.1] at this
      cases this
  | succ fuel ih =>
    intro T listed a w hcl hfree hr hy hS H
    refine ⟨fun h => (by rw [h] at hr; cases hr), fun j hj => ?_⟩
    by_cases hji : j = i
    · subst hji; exact yif_wpOpIn hF (noDefer_spec hdf j oi hi) hi hy hS ⟨fun k _ h => h, by rw [hdrop]; exact H⟩
    · have h1 := H.2 j (ready_mono hj hji)
      obtain ⟨hjun, oj, hoj, hall⟩ := mem_ready.1 hj
      have h0 := (mem_ready.1 hr).1
      have hnl : ¬ listed.getD i false = true := fun h1 => by
        rcases Nat.lt_or_ge i listed.size with h' | h'
        · simp [h'] at h0 h1; rw [h0] at h1; cases h1
        · simp [Array.getElem?_eq_none h'] at h1
      have hnot : ∀ e ∈ oj.after, Region.binds md e = true → e.on ≠ i := fun e he hb heq => hnl (heq ▸ hall e he hb)
      have hntc : ¬ TC md ops j i := fun h => hnl (ready_tc hcl hj h)
      have h2 := wpOpIn_putIf (S := T i) hF (noDefer_spec hdf j oj hoj) hoj (hfree j oj hoj hji hjun hnot) (fun cs b => hsel i oi cs b hi) (fun cs b => hsel j oj cs b hoj) hQ hy h1
      have hfree' : ∀ k ok, ops[k]? = some ok → k ≠ i → (listed.setIfInBounds j true).getD k true = false →
          (∀ e ∈ ok.after, Region.binds md e = true → e.on ≠ i) → oi.apart ops ok = true := fun k ok hk hki hun hno => by
        refine hfree k ok hk hki ?_ hno
        by_cases hjk : j = k
        · subst hjk; exact hjun
        · rw [getD_set_ne true hjk] at hun; exact hun
      have hTi : ∀ w, dropT md ops eff j T i w ↔ T i w := fun w => by
        unfold dropT
        exact ⟨fun h => h.elim (fun q => absurd q.2 hntc) (fun q => q), .inr⟩
      refine wpOpIn_mono (fun a' w' h3 => ⟨h3.2.1, ih (dropT md ops eff j T) (listed.setIfInBounds j true) a' w' (hcl.set hj) hfree' (ready_mono hr (Ne.symm hji)) ?_ ((hTi w').2 (h3.2.1 i hntc hS)) ?_⟩) h2
      · rcases h3.1 with ⟨q1, q2⟩ | q
        · exact .inl ⟨q1, fun w hw => q2 w ((hTi w).1 hw)⟩
        · exact .inr q
      · rw [Array.setIfInBounds_comm _ _ hji]
        exact h3.2.2
theorem anyHIn_take {eff : Nat → Bool} {T : Nat → World → Prop} {i : Nat} {oi : Oper} {v : Value} {fuel : Nat} {listed : Array Bool} {a : Act} {w : World} (hF : ∀ f, F.fn f) (hdf : noDefer ops = true) (hi : ops[i]? = some oi) (he : eff i = false)
    (hs : Region.noSelect ops = true) (hf : Region.free md ops listed i = true) (hr : (Region.ready md ops listed).contains i = true) (hcl : Closed md ops listed)
    (hQ : ∀ c a w, Q (.panic c) (a.put oi.dst v) w → Q (.panic c) a w) (hy : YieldsIf P ops (T i) oi v a) (hS : T i w)
    (h : wpAnyHIn F n P md ops Q eff T fuel (listed.setIfInBounds i true) (a.put oi.dst v) w) : wpAnyHIn F n P md ops Q eff T (fuel + 1) listed a w :=
  anyHIn_first hF hdf hi he (Region.noSelect_spec hs) hQ fuel T listed a w hcl (Region.free_spec hi hf) (by simpa using hr) hy hS h
/-- 'before' tells of waits. -/
theorem before_inner {acc : Array Nat} (h : ∀ j, j < acc.size → ∀ i, (acc.getD j 0).testBit i = true → TC .any ops j i) {x : Nat} {o : Oper} (ho : ops[x]? = some o) :
    ∀ (es : List Edge), (∀ e ∈ es, e ∈ o.after) → ∀ (s : Nat), (∀ i, s.testBit i = true → TC .any ops x i) →
      ∀ i, (es.foldl (fun s e => if Region.binds .any e then s ||| 2 ^ e.on ||| acc.getD e.on 0 else s) s).testBit i = true → TC .any ops x i := by
  intro es
  induction es with
  | nil => intro _ s hs i hi; exact hs i hi
  | cons e t ih =>
    intro hm s hs i hi
    simp only [List.foldl_cons] at hi
    refine ih (fun e' he' => hm e' (List.mem_cons_of_mem _ he')) _ ?_ i hi
    intro k hk
    split at hk
    · rename_i hb
      have he : Edg .any ops x e.on := ⟨o, e, ho, hm e List.mem_cons_self, hb, rfl⟩
      rw [Nat.testBit_or, Nat.testBit_or, Bool.or_eq_true, Bool.or_eq_true] at hk
      rcases hk with (hk | hk) | hk
      · exact hs k hk
      · rw [Nat.testBit_two_pow] at hk
        have : e.on = k := by simpa using hk
        exact this ▸ .one he
      · by_cases hlt : e.on < acc.size
        · exact .step he (h _ hlt k hk)
        · have : acc.getD e.on 0 = 0 := by simp [Array.getElem?_eq_none (by omega : acc.size ≤ e.on)]
          rw [this] at hk
          simp at hk
    · exact hs k hk
theorem before_outer : ∀ (l : List Oper) (acc : Array Nat), (∀ j, l[j]? = ops[acc.size + j]?) → (∀ j, j < acc.size → ∀ i, (acc.getD j 0).testBit i = true → TC .any ops j i) →
    ∀ j i, ((l.foldl (fun acc o => acc.push (o.after.foldl (fun s e => if Region.binds .any e then s ||| 2 ^ e.on ||| acc.getD e.on 0 else s) 0)) acc).getD j 0).testBit i = true → TC .any ops j i := by
  intro l
  induction l with
  | nil =>
    intro acc _ h j i hi
    simp only [List.foldl_nil] at hi
    by_cases hlt : j < acc.size
    · exact h j hlt i hi
    · have : acc.getD j 0 = 0 := by simp [Array.getElem?_eq_none (by omega : acc.size ≤ j)]
      rw [this] at hi
      simp at hi
  | cons o t ih =>
    intro acc hl h j i hi
    simp only [List.foldl_cons] at hi
    have h0 : ops[acc.size]? = some o := by have := hl 0; simpa using this.symm
    refine ih _ ?_ ?_ j i hi
    · intro k
      have := hl (k + 1)
      simp only [List.getElem?_cons_succ, Array.size_push] at this ⊢
      rw [this]; congr 1; omega
    · intro k hk m hm
      simp only [Array.size_push] at hk
      by_cases hkk : k < acc.size
      · have e : (acc.push (o.after.foldl (fun s e => if Region.binds .any e then s ||| 2 ^ e.on ||| acc.getD e.on 0 else s) 0)).getD k 0 = acc.getD k 0 := by
          simp [Array.getElem?_push, Nat.ne_of_lt hkk]
        rw [e] at hm
        exact h k hkk m hm
      · have hk' : k = acc.size := by omega
        subst hk'
        have e : (acc.push (o.after.foldl (fun s e => if Region.binds .any e then s ||| 2 ^ e.on ||| acc.getD e.on 0 else s) 0)).getD acc.size 0 = o.after.foldl (fun s e => if Region.binds .any e then s ||| 2 ^ e.on ||| acc.getD e.on 0 else s) 0 := by
          simp
        rw [e, ← Array.foldl_toList] at hm
        exact before_inner h h0 o.after.toList (fun e he => by simpa using he) 0 (fun i hi => by simp at hi) m hm
theorem before_spec {j i : Nat} (h : ((Region.before ops).getD j 0).testBit i = true) : TC .any ops j i := by
  unfold Region.before at h
  rw [← Array.foldl_toList] at h
  exact before_outer ops.toList #[] (by simp) (fun j hj => by simp at hj) j i h
theorem anyHIn_done {eff : Nat → Bool} {T : Nat → World → Prop} {listed : Array Bool} {a : Act} {w : World} (hr : Region.ready md ops listed = []) (h : Q .normal a w) :
    ∀ fuel, wpAnyHIn F n P md ops Q eff T fuel listed a w
  | 0 => ⟨hr, h⟩
  | _ + 1 => ⟨fun _ => h, by rw [hr]; simp⟩
end
end
end Go.Ev
