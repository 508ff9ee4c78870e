/- Regions, plain and drawn. -/
import Derived.Test.YtgkjhnghibpeoaaDoorEv12
import Derived.TacticsIn
namespace Go.Ev
noncomputable section
open Go Go.RowKit
variable {Y : Nat → Option LoopRec} {G : Nat → Nat → Option AV} {B : Nat} {P : Program}

/-- What holds behind a region: how it ends; E: the slots of which it is sure wherever it stands. -/
def RQ (Y : Nat → Option LoopRec) (G : Nat → Nat → Option AV) (B : Nat) (n : Nat) (E : Tr AV) (mks : List DF) (ρ : Env) (st : St) (w : World) (re : RE) (st' : St) (Q : Exit → Act → World → Prop) : Prop :=
  match re with
  | .go fs' => ∀ ρ' a' w', Step Y G B ρ st w ρ' st' w' → AR ρ' n fs' a' → Q .normal a' w'
  | .pan v => ∀ ρ' u a' w', Step Y G B ρ st w ρ' st' w' → VR ρ' v u → PTR ρ' E a'.tmps → DsR ρ' mks a'.defers → Q (.panic [{ v := u, recovered := false }]) a' w'
theorem RQ.later {n : Nat} {E : Tr AV} {mks : List DF} {ρ ρ1 : Env} {st st1 st' : St} {w w1 : World} {re : RE} {Q : Exit → Act → World → Prop} (h : HR Y G B ρ st.h w) (hs : Step Y G B ρ st w ρ1 st1 w1) (hq : RQ Y G B n E mks ρ st w re st' Q) :
    RQ Y G B n E mks ρ1 st1 w1 re st' Q := by
  cases re with
  | go fs => exact fun ρ' a' w' h1 h2 => hq ρ' a' w' (hs.trans h h1) h2
  | pan v => exact fun ρ' u a' w' h1 h2 h3 h4 => hq ρ' u a' w' (hs.trans h h1) h2 h3 h4
theorem opsA_sound {s : Sys} (hs : SysOk P G s) {ro : Option Nat} {n : Nat} {ops : Array Oper} {Q : Exit → Act → World → Prop} {E : Tr AV} :
    ∀ (l : List Oper) {ρ : Env} {w : World} {fs : FS} {re : RE} {st st' : St} {a : Act}, (∀ o ∈ l, ∀ c, o.op ≠ .defer c) → (∀ o ∈ l, ∀ d, o.dst = some d → E.get d = none) → HR Y G B ρ st.h w → AR ρ n fs a → PTR ρ E a.tmps →
      opsA P G s Y n ops l fs st = some (re, st') → RQ Y G B n E fs.mks ρ st w re st' Q → wpListIn (FF ro) 0 P ops Q l a w := by
  intro l
  induction l with
  | nil =>
    intro ρ w fs re st st' a _ _ h ha hE hr hQ
    simp only [opsA, Option.some.injEq, Prod.mk.injEq] at hr
    obtain ⟨rfl, rfl⟩ := hr
    exact hQ ρ a w (Step.refl h) ha
  | cons o t ih =>
    intro ρ w fs re st st' a hd hEd h ha hE hr hQ
    simp only [opsA] at hr
    unfold wpListIn
    split at hr
    · rename_i fs1 st1 h1
      refine opA_sound hs (ro := ro) (hd o List.mem_cons_self) h ha h1 ?_ (fun v ρ' u w' q => by cases q)
      intro fs' ρ1 u w1 q hst hA hmk
      cases q
      refine ih (fun o' ho => hd o' (List.mem_cons_of_mem _ ho)) (fun o' ho => hEd o' (List.mem_cons_of_mem _ ho)) hst.hr hA ((PTR.put _ _ (hEd o List.mem_cons_self)).2 (hE.mono hst.le)) hr ?_
      rw [hmk]
      exact hQ.later h hst
    · rename_i hno
      refine opA_sound hs (ro := ro) (hd o List.mem_cons_self) h ha hr (fun fs' ρ' u w' q => ?_) (fun v ρ' u w' q hst hu => ?_)
      · subst q; exact absurd hr (hno _ _)
      · subst q; exact hQ ρ' u a w' hst hu (hE.mono hst.le) (ha.df.mono hst.le)
mutual
/-- In what orders. -/
inductive PlOk (ops : Array Oper) : Nat → Array Bool → PL → Prop
  | done {f : Nat} {listed : Array Bool} (h : Region.ready .any ops listed = []) : PlOk ops f listed .done
  | take {f : Nat} {listed : Array Bool} {i : Nat} {p : PL} (hs : ((ops[i]?).map fun o => simpleK o.op) = some true) (hr : (Region.ready .any ops listed).contains i = true) (hf : Region.free .any ops listed i = true)
      (h : PlOk ops f (listed.setIfInBounds i true) p) : PlOk ops (f + 1) listed (.take i p)
  | alts {f : Nat} {listed : Array Bool} {p : PL} (rs : List Nat) (hr : Region.ready .any ops listed = rs) (hne : rs ≠ []) (hp : AltOk ops f listed rs p) : PlOk ops (f + 1) listed p
inductive AltOk (ops : Array Oper) : Nat → Array Bool → List Nat → PL → Prop
  | stop {f : Nat} {listed : Array Bool} : AltOk ops f listed [] .stop
  | alt {f : Nat} {listed : Array Bool} {i : Nat} {rs : List Nat} {p q : PL} (hp : PlOk ops f (listed.setIfInBounds i true) p) (hq : AltOk ops f listed rs q) : AltOk ops f listed (i :: rs) (.alt i p q)
end
theorem altsA_ok {ops : Array Oper} {f : Nat} {listed : Array Bool} {go : Nat → Option PL} (hg : ∀ k p, go k = some p → PlOk ops f (listed.setIfInBounds k true) p) : ∀ {rs : List Nat} {p : PL}, altsA go rs = some p → AltOk ops f listed rs p := by
  intro rs
  induction rs with
  | nil => intro p h; simp only [altsA, Option.some.injEq] at h; subst h; exact .stop
  | cons i t ih =>
    intro p h
    simp only [altsA] at h
    split at h
    · rename_i p' q' h1 h2
      simp only [Option.some.injEq] at h; subst h
      exact .alt (hg i p' h1) (ih h2)
    · cases h
theorem planA_ok {ops : Array Oper} : ∀ {f : Nat} {listed : Array Bool} {p : PL}, planA ops f listed = some p → PlOk ops f listed p := by
  intro f
  induction f with
  | zero =>
    intro listed p h
    simp only [planA] at h
    split at h
    · rename_i hr; simp only [Option.some.injEq] at h; subst h; exact .done hr
    · cases h
  | succ f ih =>
    intro listed p h
    simp only [planA] at h
    split at h
    · rename_i hr; simp only [Option.some.injEq] at h; subst h; exact .done hr
    · rename_i i rest hr
      split at h
      · rename_i k hk
        split at h
        · rename_i p' hp
          simp only [Option.some.injEq] at h; subst h
          have h1 := List.find?_some hk
          have h2 := List.mem_of_find?_eq_some hk
          simp only [Bool.and_eq_true] at h1
          refine .take ?_ (by rw [hr]; simpa using h2) h1.2 (ih hp)
          cases ho : ops[k]? with
          | none => simp [ho] at h1
          | some o => simp [ho] at h1 ⊢; exact h1.1
        · cases h
      · exact .alts (i :: rest) hr (by simp) (altsA_ok (fun k p hp => ih hp) h)

/-- What was read, and of which operation: blocks of the world. -/
def TL (w : World) (L : List (Nat × Nat)) : Nat → World → Prop := fun k w' => ∀ g, (k, g) ∈ L → w'.heap[g]? = w.heap[g]?
/-- The world's blocks of what was read. -/
def LcOk (B : Nat) (ρ : Env) (st : St) (L : List (Nat × Nat)) (Lc : List (Nat × Nat)) : Prop :=
  ∀ k g, (k, g) ∈ Lc → g < B ∨ ∃ b x, (k, b) ∈ L ∧ ρ.blk b = g ∧ st.h.get b = some x ∧ x ≠ .dead
theorem takeA_ok {ρ : Env} {w : World} {n : Nat} {fs : FS} {st : St} {o : Oper} {a : Act} {v : AV} {l : List Nat} (h : HR Y G B ρ st.h w) (ha : AR ρ n fs a) (hr : takeA P G fs st o = some (v, l)) :
    ∃ u, ∃ gs : List Nat, VR ρ v u ∧ (∀ W : World, (∀ g ∈ gs, W.heap[g]? = w.heap[g]?) → (execOp a.eval o).run P W = .ok (.value u) W) ∧ ∀ g ∈ gs, g < B ∨ ∃ b x, b ∈ l ∧ ρ.blk b = g ∧ st.h.get b = some x ∧ x ≠ .dead := by
  unfold takeA at hr
  have he := evA_ok ha.tr
  split at hr
  · rename_i t x ho
    unfold takeL at hr
    split at hr
    · rename_i b f hx
      split at hr
      · rename_i cs hb
        split at hr
        · rename_i c hc
          simp only [Option.some.injEq, Prod.mk.injEq] at hr
          obtain ⟨rfl, rfl⟩ := hr
          obtain ⟨u, h1, h2⟩ := run_load_row (P := P) h hb hc
          have hv := he x _ hx
          simp only [VR] at hv
          refine ⟨u, [ρ.blk b], h1, fun W hW => ?_, fun g hg => ?_⟩
          · have := h2 W (hW _ (by simp))
            simp [execOp, ho, Instr.loadAt, hv.2, Instr.sureAddr, this]
          · simp only [List.mem_singleton] at hg
            subst hg
            cases hx2 : st.h.get b with
            | none => simp [hx2] at hb
            | some y =>
              refine .inr ⟨b, y, by simp, rfl, hx2, ?_⟩
              rintro rfl
              simp [hx2, rowOf] at hb
        · cases hr
      · cases hr
    · rename_i b f hx
      split at hr
      · rename_i c hg hc
        simp only [Option.some.injEq, Prod.mk.injEq] at hr
        obtain ⟨rfl, rfl⟩ := hr
        obtain ⟨hlt, u, h1, h2⟩ := h.glob _ _ _ hg
        have hv := he x _ hx
        simp only [VR] at hv
        refine ⟨u, [b], h2, fun W hW => ?_, fun g hg => ?_⟩
        · have : W.cell? ⟨b, f, none⟩ = some u := by rw [← h1]; exact World.cell?_of_block (hW b (by simp))
          simp [execOp, ho, Instr.loadAt, hv, Instr.sureAddr, loadVar, run_isAggA hc W, this]
        · simp only [List.mem_singleton] at hg
          subst hg
          exact .inl hlt
      · cases hr
    · cases hr
  · unfold takeP at hr
    split at hr
    · rename_i c hc
      simp only [Option.some.injEq, Prod.mk.injEq] at hr
      obtain ⟨rfl, rfl⟩ := hr
      obtain ⟨u, h1, h2⟩ := run_pureA he hc
      exact ⟨u, [], h1, fun W _ => h2 W, fun g hg => by cases hg⟩
    · cases hr
theorem ready_listed {ops : Array Oper} {listed : Array Bool} {i : Nat} (h : i ∈ Region.ready .any ops listed) : ¬ listed.getD i false = true := fun h1 => by
  have h0 := (mem_ready.1 h).1
  rcases Nat.lt_or_ge i listed.size with h' | h'
  · simp [h'] at h0 h1; rw [h0] at h1; cases h1
  · simp [Array.getElem?_eq_none h'] at h1
theorem set_listed {ops : Array Oper} {listed : Array Bool} {i : Nat} (h : i ∈ Region.ready .any ops listed) : (listed.setIfInBounds i true).getD i false = true := by
  have h0 := (mem_ready.1 h).1
  rcases Nat.lt_or_ge i listed.size with h' | h'
  · simp [h']
  · simp [Array.getElem?_eq_none h'] at h0
set_option maxHeartbeats 1000000 in
theorem plan_sound {s : Sys} (hs : SysOk P G s) {ro : Option Nat} {n base : Nat} {ops : Array Oper} {Q : Exit → Act → World → Prop} {E : Tr AV} (hdf : noDefer ops = true) (hsel : Region.noSelect ops = true) (hEd : ∀ (i : Nat) o, ops[i]? = some o → ∀ d, o.dst = some d → E.get d = none)
    (hQp : ∀ (i : Nat) o, ops[i]? = some o → ∀ v c a w, Q (.panic c) (a.put o.dst v) w → Q (.panic c) a w) :
    ∀ (p : PL) {f : Nat} {listed : Array Bool} {L Lc : List (Nat × Nat)} {ρ : Env} {w : World} {fs : FS} {re : RE} {st st' : St} {a : Act}, Closed .any ops listed → HR Y G B ρ st.h w → AR ρ n fs a → PTR ρ E a.tmps → LcOk B ρ st L Lc →
      (∀ k g, (k, g) ∈ Lc → listed.getD k false = true) → planRun P G s Y n base ops p L fs st = some (re, st') →
      RQ Y G B n E fs.mks ρ st w re st' Q →
      (PlOk ops f listed p → wpAnyHIn (FF ro) 0 P .any ops Q (effK ops) (TL w Lc) f listed a w) ∧
      (∀ rs, AltOk ops f listed rs p → (∀ i ∈ rs, i ∈ Region.ready .any ops listed) → ∀ i ∈ rs, wpOpIn (FF ro) 0 P ops Q i (fun a' w' => (∀ k, ¬ TC .any ops i k → TL w Lc k w → TL w Lc k w') ∧ wpAnyHIn (FF ro) 0 P .any ops Q (effK ops) (dropT .any ops (effK ops) i (TL w Lc)) f (listed.setIfInBounds i true) a' w') a w) := by
  intro p
  induction p with
  | done =>
    intro f listed L Lc ρ w fs re st st' a hcl h ha hE hL hLl hr hQ
    simp only [planRun, Option.some.injEq, Prod.mk.injEq] at hr
    obtain ⟨rfl, rfl⟩ := hr
    refine ⟨fun hp => ?_, fun rs hp => by cases hp⟩
    cases hp with
    | done hr => exact anyHIn_done hr (hQ ρ a w (Step.refl h) ha) f
    | alts rs _ _ hp => cases hp
  | stop =>
    intro f listed L Lc ρ w fs re st st' a hcl h ha hE hL hLl hr hQ
    simp only [planRun, reduceCtorEq] at hr
  | take i p ih =>
    intro f listed L Lc ρ w fs re st st' a hcl h ha hE hL hLl hr hQ
    refine ⟨fun hp => ?_, fun rs hp => by cases hp⟩
    cases hp with
    | alts rs _ _ hp => cases hp
    | take hs0 hr0 hf0 h0 =>
    rename_i f
    simp only [planRun] at hr
    split at hr
    · cases hr
    rename_i o ho
    have heff : effK ops i = false := by
      unfold effK
      rw [ho] at hs0 ⊢
      simp at hs0 ⊢
      exact hs0
    have hmem : i ∈ Region.ready .any ops listed := by simpa using hr0
    have hnl := ready_listed hmem
    have hFF : ∀ f, (FF ro).fn f := fun _ => trivial
    split at hr
    · cases hr
    · rename_i hw
      have hw' := wantA_ok ha.tr hw
      split at hr
      · rename_i tm htm
        refine anyHIn_take (oi := o) (v := undef) hFF hdf ho heff hsel hf0 hr0 hcl (fun c a w hq => hQp i o ho _ c a w hq) (.inr ⟨hw', rfl⟩) (fun g _ => rfl) ?_
        exact (ih (hcl.set hmem) h (ha.put htm und_ok) ((PTR.put _ _ (hEd i o ho)).2 hE) hL (fun k g hk => getD_set_true (hLl k g hk)) hr hQ).1 h0
      · cases hr
    · rename_i hw
      have hw' := wantA_ok ha.tr hw
      split at hr
      · rename_i v l htk
        split at hr
        · rename_i tm htm
          obtain ⟨u, gs, hu, hrun, hgs⟩ := takeA_ok h ha htk
          have hni : ∀ g, (i, g) ∉ Lc := fun g hg => hnl (hLl i g hg)
          refine held_weaken (T' := TL w (gs.map (fun g => (i, g)) ++ Lc)) _ (fun k => ?_) _ _ _ ?_
          · by_cases hk : k = i
            · subst hk; exact .inr fun W g hg => absurd hg (hni g)
            · refine .inl fun W => ⟨fun hT g hg => hT g (by simp [hg]), fun hT g hg => hT g ?_⟩
              rcases List.mem_append.1 hg with hg | hg
              · obtain ⟨g', _, e⟩ := List.mem_map.1 hg
                cases e
                exact absurd rfl hk
              · exact hg
          · refine anyHIn_take (oi := o) (v := u) hFF hdf ho heff hsel hf0 hr0 hcl (fun c a w hq => hQp i o ho _ c a w hq) (.inl ⟨hw', fun W hW => hrun W fun g hg => hW g (by simp [hg])⟩) (fun g _ => rfl) ?_
            refine (ih (L := l.map (fun b => (i, b)) ++ L) (hcl.set hmem) h (ha.put htm hu) ((PTR.put _ _ (hEd i o ho)).2 hE) ?_ ?_ hr hQ).1 h0
            · intro k g hkg
              rcases List.mem_append.1 hkg with hg | hg
              · obtain ⟨g', hg', e⟩ := List.mem_map.1 hg
                cases e
                rcases hgs g hg' with q | ⟨b, x, h1, h2, h3, h4⟩
                · exact .inl q
                · exact .inr ⟨b, x, by simp [h1], h2, h3, h4⟩
              · rcases hL k g hg with q | ⟨b, x, h1, h2, h3, h4⟩
                · exact .inl q
                · exact .inr ⟨b, x, by simp [h1], h2, h3, h4⟩
            · intro k g hkg
              rcases List.mem_append.1 hkg with hg | hg
              · obtain ⟨g', _, e⟩ := List.mem_map.1 hg
                cases e
                exact set_listed hmem
              · exact getD_set_true (hLl k g hg)
        · cases hr
      · cases hr
  | alt i p q ihp ihq =>
    intro f listed L Lc ρ w fs re st st' a hcl h ha hE hL hLl hr hQ
    have second : ∀ f rs, AltOk ops f listed rs (.alt i p q) → (∀ i ∈ rs, i ∈ Region.ready .any ops listed) → ∀ i ∈ rs, wpOpIn (FF ro) 0 P ops Q i (fun a' w' => (∀ k, ¬ TC .any ops i k → TL w Lc k w → TL w Lc k w') ∧ wpAnyHIn (FF ro) 0 P .any ops Q (effK ops) (dropT .any ops (effK ops) i (TL w Lc)) f (listed.setIfInBounds i true) a' w') a w := by
      intro f rs hp hrs j hj
      cases hp with
      | alt hp0 hq0 =>
      rename_i rs
      simp only [planRun] at hr
      split at hr
      · cases hr
      rename_i o ho
      have hpq : firstR ops i L st (fun L fs st => planRun P G s Y n base ops p L fs st) (opA P G s Y n ops (base + i) o fs st) = some (re, st') ∧ (rs ≠ [] → planRun P G s Y n base ops q L fs st = some (re, st')) := by
        unfold bothR at hr
        split at hr
        · cases hq0
          exact ⟨hr, fun q => absurd rfl q⟩
        · unfold sameR at hr
          split at hr
          · rename_i f1 s1 f2 s2 h1 h2
            cases he : eqRE f1 f2 && eqSt s1 s2 with
            | true =>
              rw [he] at hr
              simp only [Bool.and_eq_true] at he
              have e1 := eqRE_ok he.1
              have e2 := eqSt_ok he.2
              subst e1; subst e2
              simp only [cond_true, Option.some.injEq, Prod.mk.injEq] at hr
              obtain ⟨rfl, rfl⟩ := hr
              exact ⟨h1, fun _ => h2⟩
            | false => rw [he] at hr; cases hr
          · cases hr
      obtain ⟨hop, hrq⟩ := hpq
      unfold firstR at hop
      rcases List.mem_cons.1 hj with rfl | hj
      case inr =>
        have hne : rs ≠ [] := by rintro rfl; cases hj
        exact (ihq (f := f) hcl h ha hE hL hLl (hrq hne) hQ).2 rs hq0 (fun i hi => hrs i (List.mem_cons_of_mem _ hi)) j hj
      · have hmem := hrs j List.mem_cons_self
        unfold wpOpIn
        rw [ho]
        split at hop
        case h_2 =>
          rename_i hno
          refine opA_sound hs (ro := ro) (noDefer_spec hdf j o ho) h ha hop (fun fs' ρ' u w' q => ?_) (fun v ρ' u w' q hst hu => ?_)
          · subst q; exact absurd hop (hno _ _)
          · subst q; exact hQ ρ' u a w' hst hu (hE.mono hst.le) (ha.df.mono hst.le)
        rename_i fs1 st1 hop1
        cases hall : (L.all fun kb => Nat.beq (st1.cnt kb.2) (st.cnt kb.2) || rmK ops j kb.1) with
        | false => rw [hall] at hop; simp at hop
        | true =>
        rw [hall] at hop
        simp only [cond_true] at hop
        refine opA_sound hs (ro := ro) (noDefer_spec hdf j o ho) h ha hop1 ?_ (fun v ρ' u w' q => by cases q)
        intro fs' ρ1 u1 w1 q hst hA hmk
        cases q
        have keep : ∀ k g, (k, g) ∈ Lc → rmK ops j k = false → w1.heap[g]? = w.heap[g]? ∧ (g < B ∨ ∃ b x, (k, b) ∈ L ∧ ρ1.blk b = g ∧ st1.h.get b = some x ∧ x ≠ .dead) := by
          intro k g hg hrm
          rcases hL k g hg with q | ⟨b, x, h1, h2, h3, h4⟩
          · exact ⟨hst.below.block g q, .inl q⟩
          · have hc := List.all_eq_true.1 hall _ h1
            simp only [hrm, Bool.or_false, beq_iff] at hc
            obtain ⟨g1, g2⟩ := hst.tk.keep b x h3 h4 hc
            rw [h2] at g2
            exact ⟨g2, .inr ⟨b, x, h1, by rw [hst.le.blk b (h.live b x h3 h4).1]; exact h2, g1, h4⟩⟩
        have hrmf : ∀ k, ¬ (effK ops j = true ∧ TC .any ops j k) → rmK ops j k = false := by
          intro k hk
          cases hq : rmK ops j k with
          | false => rfl
          | true =>
            unfold rmK at hq
            simp only [Bool.and_eq_true] at hq
            exact absurd ⟨hq.1, before_spec hq.2⟩ hk
        refine ⟨fun k hk _ g hg => (keep k g hg (hrmf k fun q => hk q.2)).1, ?_⟩
        have hIH := (ihp (Lc := Lc.filter fun kg => !rmK ops j kg.1) (hcl.set hmem) hst.hr hA ((PTR.put _ _ (hEd j o ho)).2 (hE.mono hst.le)) ?_ ?_ hop (by rw [hmk]; exact hQ.later h hst)).1 hp0
        · refine held_weaken _ (fun k => ?_) _ _ _ hIH
          by_cases hk : effK ops j = true ∧ TC .any ops j k
          · exact .inr fun W => .inl hk
          · refine .inl fun W => ⟨fun hT => .inr fun g hg => ?_, fun hT g hg => ?_⟩
            · have := hT g (by simp [hg, hrmf k hk])
              rw [this]
              exact (keep k g hg (hrmf k hk)).1
            · rcases hT with q | hT
              · exact absurd q hk
              · have hg' : (k, g) ∈ Lc := (List.mem_filter.1 hg).1
                rw [(keep k g hg' (hrmf k hk)).1]
                exact hT g hg'
        · intro k g hkg
          obtain ⟨h1, h2⟩ := List.mem_filter.1 hkg
          simp only [Bool.not_eq_true'] at h2
          rcases (keep k g h1 h2).2 with q | ⟨b, x, g1, g2, g3, g4⟩
          · exact .inl q
          · exact .inr ⟨b, x, List.mem_filter.2 ⟨g1, by simp [h2]⟩, g2, g3, g4⟩
        · intro k g hkg
          exact getD_set_true (hLl k g (List.mem_filter.1 hkg).1)
    refine ⟨fun hp => ?_, second f⟩
    cases hp with
    | alts rs hrr hne hp =>
      exact ⟨fun h0 => absurd (hrr ▸ h0) hne, fun i hi => second _ rs hp (fun i hi => hrr ▸ hi) i (hrr ▸ hi)⟩
end
end Go.Ev
