/- Calls; and the whole: what the evaluator tells of a call the machine does. -/
import Derived.Test.YtgkjhnghibpeoaaDoorEv15
namespace Go.Ev
noncomputable section
open Go Go.RowKit
variable {Y : Nat → Option LoopRec} {G : Nat → Nat → Option AV} {B : Nat} {P : Program}

theorem Step.kill {ρ : Env} {st : St} {w w' : World} (h : HR Y G B ρ st.h w) {b : Nat} {y : Bl} (hb : st.h.get b = some y) (hy : y ≠ .dead) (he : w'.os = w.os ∧ w'.tape = w.tape ∧ w'.output = w.output)
    (hw : ∀ j, j ≠ ρ.blk b → j < w.heap.size → w'.heap[j]? = w.heap[j]?) (hs : w.heap.size ≤ w'.heap.size) : Step Y G B ρ st w ρ (st.put b .dead) w' := by
  have hk := h.kill hb
  refine ⟨.refl _, ⟨Nat.le_trans h.base hs, hk.dom, hk.live, hk.inj, fun c x hc => ?_, fun c o v hv => ?_⟩, h.below hb hy he hw hs, TK.put h hb hy hw⟩
  · by_cases hd : x = .dead
    · subst hd; trivial
    · rw [St.get_put] at hc
      split at hc
      · cases hc; exact absurd rfl hd
      · rename_i hcb
        exact (h.blk c x hc).congr (hw _ (fun e => hcb (h.inj c b x y hc hb hd hy e)) ((h.blk c x hc).there hd))
  · obtain ⟨q1, u, q2, q3⟩ := h.glob c o v hv
    refine ⟨q1, u, ?_, q3⟩
    rw [← q2]
    exact World.cell?_of_block (hw c (by have := (h.live b y hb hy).2; omega) (by have := h.base; omega))
theorem MR.settle {ρ : Env} {m : MD} {u : FrameMode} (h : MR ρ m u) : MR ρ (settleA m) (Go.settle u) := by
  cases m with
  | none => simp only [MR] at h; subst h; rfl
  | some x =>
    obtain ⟨v, b⟩ := x
    obtain ⟨u', h1, rfl⟩ := h
    cases b with
    | true => rfl
    | false => exact ⟨u', h1, rfl⟩
theorem MR.ne_run {ρ : Env} {m : MD} {u : FrameMode} (h : MR ρ m u) : u ≠ .run := by
  cases m with
  | none => simp only [MR] at h; subst h; simp
  | some x => obtain ⟨v, b⟩ := x; obtain ⟨u', h1, rfl⟩ := h; simp
theorem leave_ok {s : Sys} (hs : SysOk P G s) {fn : Func} {tmps : Array Value} {R : Ending → World → Prop} : ∀ {mks : List DF} {ds : List Deferred} {ρ : Env} {w : World} {st st' : St} {m m' : MD} {u : FrameMode}, leaveA P s Y mks m st = some (m', st') → HR Y G B ρ st.h w → DsR ρ mks ds → MR ρ m u →
    (∀ ρ' w' u', Step Y G B ρ st w ρ' st' w' → MR ρ' m' u' → LeavesIn Fence.wide 0 P fn tmps R [] u' w') →
    LeavesInM Fence.wide 0 P fn tmps R ds u w := by
  intro mks
  induction mks with
  | nil =>
    intro ds ρ w st st' m m' u hr h hds hmr hR
    simp only [leaveA, Option.some.injEq, Prod.mk.injEq] at hr
    obtain ⟨rfl, rfl⟩ := hr
    cases hds
    exact hR ρ w u (Step.refl h) hmr
  | cons x t ih =>
    intro ds ρ w st st' m m' u hr h hds hmr hR
    obtain ⟨d, l', hd, hl, rfl⟩ := hds
    cases x with
    | mk b =>
      simp only [leaveA] at hr
      split at hr
      case h_2 => cases hr
      rename_i hb
      obtain ⟨_, rfl⟩ := hd
      have hbl : w.heap[ρ.blk b]? = some (.deferred (some [])) := h.blk b _ hb
      have hw : ∀ i, i ≠ ρ.blk b → i < w.heap.size → (w.heap.setIfInBounds (ρ.blk b) (.deferred none))[i]? = w.heap[i]? := fun i hi _ => by
        rw [Array.getElem?_setIfInBounds_ne (by omega)]
      have hst : Step Y G B ρ st w ρ (st.put b .dead) { w with heap := w.heap.setIfInBounds (ρ.blk b) (.deferred none) } := Step.kill h hb (by simp) ⟨rfl, rfl, rfl⟩ hw (by simp)
      refine ⟨hmr.ne_run, .inl ⟨ρ.blk b, { w with heap := w.heap.setIfInBounds (ρ.blk b) (.deferred none) }, rfl, ?_, ih hr hst.hr hl hmr (fun ρ' w' u' h' hm' => hR ρ' w' u' (hst.trans h h') hm')⟩⟩
      simp only [Instr.takeDeferred, getObj, setObj, Sem.run_bind, Sem.run, hbl, Result.andThen_ok, Sem.run_pure]
    | fn g c a =>
      simp only [leaveA] at hr
      split at hr
      case h_2 => cases hr
      rename_i fg cs as hfn hcs has
      obtain ⟨cv, av, g1, g2, rfl⟩ := hd
      cases hq : fg.body.isSome && !(fg.name == "runtime.NumGoroutine") with
      | false => rw [hq] at hr; cases hr
      | true =>
      rw [hq] at hr
      simp only [cond_true] at hr
      simp only [Bool.and_eq_true, Bool.not_eq_true'] at hq
      obtain ⟨hq1, hq2⟩ := hq
      have hbn : ¬ fg.body = none := by rintro e; rw [e] at hq1; cases hq1
      have hq3 : ¬ fg.name = "runtime.NumGoroutine" := by simpa using hq2
      split at hr
      case h_2 => cases hr
      rename_i m1 st1 hdc
      have hfr := (LR.fr has g2).append (LR.fr hcs g1)
      refine ⟨hmr.ne_run, .inr ⟨fun q => (by cases q), .func g, cv.toArray, g, (av ++ cv).toArray, rfl, ?_, fun _ _ => trivial, ?_⟩⟩
      · simp [invoke, callFunc, hfn, hq3, hbn]
      · refine CallsDIn.mono (hs.dcall hdc h hfr hmr) ?_
        rintro e u' w' ⟨ρ', v, rfl, hm', hst⟩
        exact ih hr hst.hr (hl.mono hst.le) hm'.settle (fun ρ2 w2 u2 h2 hm2 => hR ρ2 w2 u2 (hst.trans h h2) hm2)
def resR (tmps : Array Value) : ResultVar → Sem Value
  | .tmp t => pure (tmps.getD t undef)
  | .cell a t => do loadVar t (← asAddr (tmps.getD a undef))
theorem results_eq (fn : Func) (tmps : Array Value) : results fn tmps = (do let vs ← fn.results.mapM (resR tmps); pure (if h : vs.size = 1 then vs[0] else .tuple vs)) := by
  unfold results
  congr 1
/-- What is known of the slots. -/
def GR (ρ : Env) (g : Nat → Option AV) (tmps : Array Value) : Prop := ∀ t a, g t = some a → VR ρ a (tmps.getD t undef)
theorem TR.gr {ρ : Env} {n : Nat} {tm : Tr AV} {tmps : Array Value} (h : TR ρ n tm tmps) : GR ρ (fun t => some (tmGet tm t)) tmps := fun t a ha => by
  simp only [Option.some.injEq] at ha; subst ha; exact h.get t
theorem res1_ok {ρ : Env} {w : World} {g : Nat → Option AV} {st : St} {tmps : Array Value} {r : ResultVar} {a : AV} (hr : resA1 P g st r = some a) (h : HR Y G B ρ st.h w) (ht : GR ρ g tmps) :
    ∃ v, VR ρ a v ∧ (resR tmps r).run P w = .ok v w := by
  cases r with
  | tmp t =>
    simp only [resA1] at hr
    exact ⟨_, ht t a hr, rfl⟩
  | cell c t =>
    simp only [resA1] at hr
    split at hr
    case h_2 => cases hr
    rename_i b f hc
    split at hr
    case h_2 => cases hr
    rename_i cs hb
    have hg := ht c _ hc
    simp only [VR] at hg
    obtain ⟨v, h1, h2⟩ := run_load_row (P := P) h hb hr
    exact ⟨v, h1, by simp only [resR, hg.2, asAddr, Sem.run_bind, Sem.run_pure, Result.andThen_ok]; exact h2 w rfl⟩
theorem res_ok {ρ : Env} {w : World} {g : Nat → Option AV} {st : St} {tmps : Array Value} : ∀ {rs : List ResultVar} {l : List AV}, resA P g st rs = some l → HR Y G B ρ st.h w → GR ρ g tmps →
    ∃ us, FR ρ l us ∧ (rs.mapM (resR tmps)).run P w = .ok us w := by
  intro rs
  induction rs with
  | nil =>
    intro l hr h ht
    simp only [resA, Option.some.injEq] at hr; subst hr
    exact ⟨[], rfl, by simp⟩
  | cons r t ih =>
    intro l hr h ht
    simp only [resA] at hr
    split at hr
    case h_2 => cases hr
    rename_i a l' h1 h2
    simp only [Option.some.injEq] at hr; subst hr
    obtain ⟨v, g1, g2⟩ := res1_ok h1 h ht
    obtain ⟨us, g3, g4⟩ := ih h2 h ht
    refine ⟨v :: us, ⟨v, us, g1, g3, rfl⟩, ?_⟩
    rw [List.mapM_cons, Sem.run_bind, g2]
    simp only [Result.andThen_ok, Sem.run_bind, g4, Sem.run_pure]
theorem resS_ok {ρ : Env} {w : World} {fn : Func} {g : Nat → Option AV} {st : St} {tmps : Array Value} {v : AV} (hr : resS P fn g st = some v) (h : HR Y G B ρ st.h w) (ht : GR ρ g tmps) :
    ∃ u, VR ρ v u ∧ (results fn tmps).run P w = .ok u w := by
  unfold resS at hr
  have key : ∀ {l}, resA P g st fn.results.toList = some l → ∃ us, FR ρ l us ∧ (results fn tmps).run P w = .ok (if h : us.toArray.size = 1 then us.toArray[0] else .tuple us.toArray) w := by
    intro l hl
    obtain ⟨us, g1, g2⟩ := res_ok hl h ht
    refine ⟨us, g1, ?_⟩
    rw [results_eq, Sem.run_bind, Array.mapM_eq_mapM_toList, Sem.run_map]
    rw [g2]
    rfl
  split at hr
  · rename_i a hl
    simp only [Option.some.injEq] at hr; subst hr
    obtain ⟨us, ⟨u, l', g1, g2, rfl⟩, g3⟩ := key hl
    cases g2
    exact ⟨u, g1, by simpa using g3⟩
  · rename_i l hno hl
    simp only [Option.some.injEq] at hr; subst hr
    obtain ⟨us, g1, g3⟩ := key hl
    have hlen := g1.length
    have hne : ¬ us.toArray.size = 1 := by
      intro e
      have : l.length = 1 := by simp at e; omega
      obtain ⟨a, rfl⟩ := List.length_eq_one_iff.1 this
      exact hno a rfl
    rw [dif_neg hne] at g3
    exact ⟨.tuple us.toArray, by simp only [VR]; exact ⟨us, g1.lr, rfl⟩, g3⟩
  · cases hr
theorem get_argsTm : ∀ (as : List AV) (k t : Nat), (argsTm k as).get t = if t < k then none else as[t - k]? := by
  intro as
  induction as with
  | nil => intro k t; simp [argsTm, Tr.get_e]
  | cons a l ih =>
    intro k t
    simp only [argsTm, Tr.get_set, ih (k + 1) t]
    by_cases h : t = k
    · subst h; simp
    · rw [if_neg h]
      by_cases h2 : t < k
      · rw [if_pos (by omega), if_pos h2]
      · rw [if_neg (by omega), if_neg h2, show t - k = (t - (k + 1)) + 1 by omega]
        rfl
theorem args_ok {ρ : Env} {as : List AV} {vs : List Value} {n : Nat} (h : FR ρ as vs) (hn : as.length ≤ n) : TR ρ n (argsTm 0 as) (vs.toArray ++ Array.replicate (n - vs.toArray.size) undef) := by
  have hl := h.length
  refine ⟨by simp; omega, fun t => ?_, fun t ht => ?_⟩
  · simp only [tmGet, get_argsTm, Nat.not_lt_zero, if_false, Nat.sub_zero]
    cases ha : as[t]? with
    | none =>
      have hge : as.length ≤ t := by simpa using ha
      have : (vs.toArray ++ Array.replicate (n - vs.toArray.size) undef).getD t undef = undef := by
        simp only [Array.getD_eq_getD_getElem?, Array.getElem?_append, List.size_toArray]
        rw [if_neg (by omega), Array.getElem?_replicate]
        split <;> rfl
      rw [this]
      exact und_ok
    | some a =>
      obtain ⟨v, hv, hr⟩ := h.get ha
      have hlt : t < vs.length := by
        rcases Nat.lt_or_ge t vs.length with q | q
        · exact q
        · rw [List.getElem?_eq_none q] at hv; cases hv
      have : (vs.toArray ++ Array.replicate (n - vs.toArray.size) undef).getD t undef = v := by
        simp only [Array.getD_eq_getD_getElem?, Array.getElem?_append, List.size_toArray]
        rw [if_pos hlt]
        simp [hv]
      rw [this]
      exact hr
  · simp only [get_argsTm, Nat.not_lt_zero, if_false, Nat.sub_zero]
    exact List.getElem?_eq_none (by omega)
/-- A world that has grown. -/
theorem Step.grown {ρ : Env} {st : St} {w w' : World} (h : HR Y G B ρ st.h w) (hb : Below w.heap.size w w') : Step Y G B ρ st w ρ st w' := by
  have hk : ∀ j, j < w.heap.size → w'.heap[j]? = w.heap[j]? := fun j hj => hb.block j hj
  refine ⟨.refl _, ⟨Nat.le_trans h.base hb.size, h.dom, h.live, h.inj, fun b x hx => ?_, fun b o v hv => ?_⟩, ?_, fun b => Nat.le_refl _, fun b x hx hd _ => ⟨hx, hk _ ((h.blk b x hx).there hd)⟩⟩
  · by_cases hd : x = .dead
    · subst hd; trivial
    · exact (h.blk b x hx).congr (hk _ ((h.blk b x hx).there hd))
  · obtain ⟨q1, u, q2, q3⟩ := h.glob b o v hv
    refine ⟨q1, u, ?_, q3⟩
    rw [← q2]
    exact World.cell?_of_block (hk b (by have := h.base; omega))
  · exact hb.mono h.base
/-- What is known of closed calls is so. -/
def COk (P : Program) (C : FuncId → Option Bool) : Prop := ∀ f b, C f = some b → ∀ w, CallsIn Fence.wide 0 P f #[] w (fun e w' => e = .returned (.bool b) ∧ Below w.heap.size w w')
theorem call_ok {s : Sys} {C : FuncId → Option Bool} (hC : COk P C) (hs : SysX P G s) {ρ : Env} {w : World} {f : FuncId} {as : List AV} {st st' : St} {v : CR} {vs : List Value} (hr : callStep P C s Y f as st = some (v, st')) (h : HR Y G B ρ st.h w) (hv : FR ρ as vs) :
    CallsIn Fence.wide 0 P f vs.toArray w (CPost Y G B ρ st w v st') := by
  unfold callStep at hr
  split at hr
  · rename_i b hk
    simp only [Option.some.injEq, Prod.mk.injEq] at hr
    obtain ⟨rfl, rfl⟩ := hr
    cases as with
    | cons x t => cases hk
    | nil =>
      cases hv
      refine CallsIn.mono (hC f b hk w) ?_
      rintro e w' ⟨rfl, hb⟩
      exact ⟨ρ, ⟨.bool b, rfl, by simp only [VR]⟩, Step.grown h hb⟩
  split at hr
  · cases hr
  rename_i fn hf
  split at hr
  · cases hr
  rename_i c hc
  simp only [ble_dec, Bool.cond_decide] at hr
  split at hr
  case isFalse => cases hr
  rename_i hn
  refine callsIn_of_wp_marks hf hc trivial ?_
  have ha0 : AR ρ fn.ntmps ⟨argsTm 0 as, []⟩ { tmps := vs.toArray ++ Array.replicate (fn.ntmps - vs.toArray.size) undef, defers := [] } := ⟨args_ok hv hn, rfl⟩
  have fin : ∀ {ρ1 : Env} {w1 : World} {st1 : St} {g : Nat → Option AV} {a1 : Act} {m : MD} {u : FrameMode} {mks : List DF}, doneS P fn g (leaveA P s Y mks m st1) = some (v, st') → Step Y G B ρ st w ρ1 st1 w1 → GR ρ1 g a1.tmps → DsR ρ1 mks a1.defers → MR ρ1 m u →
      LeavesInM Fence.wide 0 P fn a1.tmps (CPost Y G B ρ st w v st') a1.defers u w1 := by
    intro ρ1 w1 st1 g a1 m u mks hl k1 hg hds hmr
    cases hla : leaveA P s Y mks m st1 with
    | none => rw [hla] at hl; simp [doneS] at hl
    | some x =>
      obtain ⟨m2, st2⟩ := x
      rw [hla] at hl
      refine leave_ok hs.toSysOk hla k1.hr hds hmr (fun ρ2 w2 u2 h2 hm2 => ?_)
      unfold doneS at hl
      split at hl
      · rename_i st3 heq
        simp only [Option.some.injEq, Prod.mk.injEq] at heq
        obtain ⟨rfl, rfl⟩ := heq
        simp only [MR] at hm2; subst hm2
        split at hl
        case h_2 => cases hl
        rename_i x hx
        simp only [Option.some.injEq, Prod.mk.injEq] at hl
        obtain ⟨rfl, rfl⟩ := hl
        obtain ⟨u, hu, hrun⟩ := resS_ok (P := P) hx h2.hr (fun t a ha => (hg t a ha).mono h2.le)
        exact ⟨u, hrun, ρ2, ⟨u, rfl, hu⟩, k1.trans h h2⟩
      · rename_i x st3 heq
        simp only [Option.some.injEq, Prod.mk.injEq] at heq
        obtain ⟨rfl, rfl⟩ := heq
        simp only [Option.some.injEq, Prod.mk.injEq] at hl
        obtain ⟨rfl, rfl⟩ := hl
        obtain ⟨u, hu, rfl⟩ := hm2
        exact ⟨ρ2, ⟨u, rfl, hu⟩, k1.trans h h2⟩
      · cases hl
  split at hr
  · rename_i fs st1 he
    refine wpIn_mono (hs.exec he h ha0 (fun l e => by cases e)).wp ?_
    rintro e a1 w1 ⟨rfl, ρ1, k1, k2⟩
    exact fin hr k1 k2.tr.gr k2.df rfl
  · rename_i fs st1 he
    refine wpIn_mono (hs.exec he h ha0 (fun l e => by cases e)).wp ?_
    rintro e a1 w1 ⟨rfl, ρ1, k1, k2⟩
    exact fin hr k1 k2.tr.gr k2.df rfl
  · rename_i x fs st1 he
    refine wpIn_mono (hs.exec he h ha0 (fun l e => by cases e)).wp ?_
    rintro e a1 w1 ⟨ρ1, u, rfl, hu, k1, k2, k3⟩
    exact fin hr k1 k2 k3 ⟨u, hu, rfl⟩
  · cases hr
theorem exec_ok {s : Sys} (hs : SysX P G s) (hm : P.follows .mixedOrders = true) {ρ : Env} {w : World} {rd : Option Nat} {n : Nat} {c : Code} {fs fs' : FS} {st st' : St} {ex : EX} {a : Act}
    (hr : execStep P G s rd Y n c fs st = some (ex, fs', st')) (h : HR Y G B ρ st.h w) (ha : AR ρ n fs a) (hrd : ∀ l, rd = some l → ρ.dom l) :
    WPc (FF (rd.map ρ.blk)) P c (XPost Y G B ρ st w n ex fs' st') a w := by
  unfold execStep at hr
  split at hr
  · simp only [Option.some.injEq, Prod.mk.injEq] at hr
    obtain ⟨rfl, rfl, rfl⟩ := hr
    exact wpIn_skip ⟨rfl, ρ, Step.refl h, ha⟩
  · simp only [Option.some.injEq, Prod.mk.injEq] at hr
    obtain ⟨rfl, rfl, rfl⟩ := hr
    exact wpIn_label ⟨rfl, ρ, Step.refl h, ha⟩
  · simp only [Option.some.injEq, Prod.mk.injEq] at hr
    obtain ⟨rfl, rfl, rfl⟩ := hr
    exact wpIn_ret ⟨rfl, ρ, Step.refl h, ha⟩
  · simp only [Option.some.injEq, Prod.mk.injEq] at hr
    obtain ⟨rfl, rfl, rfl⟩ := hr
    exact wpIn_exit ⟨rfl, ρ, Step.refl h, ha⟩
  · simp only [Option.some.injEq, Prod.mk.injEq] at hr
    obtain ⟨rfl, rfl, rfl⟩ := hr
    exact wpIn_goto ⟨rfl, ρ, Step.refl h, ha⟩
  · exact scopeW_wp (scope_ok hs 1000000 hr h ha hrd)
  · rename_i x y
    refine wpIn_seq (seq_wp hs hr h ha hrd _ ?_)
    intro ρ1 fs1 st1 a1 w1 k1 k2 he
    have := (hs.exec he k1.hr k2 (fun l e => k1.le.dom l (hrd l e))).wp
    rw [FF_le hrd k1.le] at this
    exact wpIn_mono this fun e a w hx => hx.trans h k1
  · rename_i x p q
    have he := evA_ok ha.tr x
    unfold condS at hr
    split at hr
    · rename_i hx
      have hv := he _ hx
      simp only [VR] at hv
      exact wpIn_cond_true hv (hs.exec hr h ha hrd).wp
    · rename_i hx
      have hv := he _ hx
      simp only [VR] at hv
      exact wpIn_cond_false hv (hs.exec hr h ha hrd).wp
    · cases hr
  · rename_i id b
    refine wpIn_block ?_
    unfold blockS at hr
    split at hr
    · rename_i i fs1 st1 he
      refine wpIn_mono (hs.exec he h ha hrd).wp ?_
      rintro e a1 w1 ⟨rfl, ρ1, k1, k2⟩
      simp only [EX.toExit, Exit.inBlock]
      simp only [beq_dec, Bool.cond_decide] at hr
      split at hr
      · rename_i hi
        simp only [Option.some.injEq, Prod.mk.injEq] at hr
        obtain ⟨rfl, rfl, rfl⟩ := hr
        rw [if_pos hi]
        exact ⟨rfl, ρ1, k1, k2⟩
      · rename_i hi
        simp only [Option.some.injEq, Prod.mk.injEq] at hr
        obtain ⟨rfl, rfl, rfl⟩ := hr
        rw [if_neg hi]
        exact ⟨rfl, ρ1, k1, k2⟩
    · rename_i hno
      refine wpIn_mono (hs.exec hr h ha hrd).wp ?_
      intro e a1 w1 hx
      cases ex with
      | exit i => exact absurd hr (hno _ _ _)
      | pan v => obtain ⟨ρ1, u, rfl, h2⟩ := hx; exact ⟨ρ1, u, rfl, h2⟩
      | _ => obtain ⟨rfl, ρ1, k1, k2⟩ := hx; exact ⟨rfl, ρ1, k1, k2⟩
  · rename_i b
    refine loopW_step (seq_wp hs hr h ha hrd _ ?_)
    intro ρ1 fs1 st1 a1 w1 k1 k2 he
    have := hs.exec he k1.hr k2 (fun l e => k1.le.dom l (hrd l e))
    rw [FF_le hrd k1.le] at this
    intro b' k cs hro hb hrm
    obtain ⟨e, a', w', hq, harr⟩ := this b' k cs hro hb hrm
    exact ⟨e, a', w', hq.trans h k1, harr⟩
  · rename_i id ops draw
    exact region_wp hs hm hr h ha
  · rename_i f params assign body
    exact range_wp hs hr h ha hrd
  · cases hr
/-! ### Deferred calls -/
def SPost (Y : Nat → Option LoopRec) (G : Nat → Nat → Option AV) (B : Nat) (ρ : Env) (st : St) (w : World) (n : Nat) (c₀ : Frame) (cs : List Frame) (ex : EX) (fs' : FS) (m' : MD) (st' : St) : Exit → Act → List Frame → World → Prop :=
  fun e a' cs' w' => e = ex.toExit ∧ (∀ v, ex ≠ .pan v) ∧ ∃ ρ' u', cs' = { c₀ with mode := u' } :: cs ∧ MR ρ' m' u' ∧ Step Y G B ρ st w ρ' st' w' ∧ AR ρ' n fs' a'
theorem wpSIn_mono {F : Fence} {k : Nat} {c : Code} {Q Q' : Exit → Act → List Frame → World → Prop} {a : Act} {cs : List Frame} {w : World} (h : c.wpSIn F k P Q a cs w) (hq : ∀ e a cs w, Q e a cs w → Q' e a cs w) : c.wpSIn F k P Q' a cs w :=
  fun b k hb hr hF hroom => let ⟨e, a', cs', w', l, q, r⟩ := h b k hb hr hF hroom; ⟨e, a', cs', w', l, hq _ _ _ _ q, r⟩
theorem recA_ok {ρ : Env} {m : MD} {u : FrameMode} (h : MR ρ m u) (c₀ : Frame) (cs : List Frame) :
    (∃ v u', recoverD ({ c₀ with mode := u } :: cs) = some (v, { c₀ with mode := u' } :: cs) ∧ VR ρ (recA m).1 v ∧ MR ρ (recA m).2 u') ∨ (recoverD ({ c₀ with mode := u } :: cs) = none ∧ (recA m) = (.nili, m)) := by
  cases m with
  | none => simp only [MR] at h; subst h; exact .inr ⟨rfl, rfl⟩
  | some x =>
    obtain ⟨v, b⟩ := x
    obtain ⟨u', h1, rfl⟩ := h
    cases b with
    | true => exact .inr ⟨rfl, rfl⟩
    | false => exact .inl ⟨u', _, rfl, h1, u', h1, rfl⟩
theorem opsR_sound {n : Nat} {ops : Array Oper} {Q : Exit → Act → List Frame → World → Prop} {c₀ : Frame} {cs : List Frame} : ∀ (k l : Nat) {ρ : Env} {w : World} {fs fs' : FS} {m m' : MD} {u : FrameMode} {st st' : St} {a : Act}, l + k = ops.size → HR Y G B ρ st.h w → AR ρ n fs a → MR ρ m u →
    opsR P G Y n ops (ops.toList.drop l) fs m st = some (fs', m', st') →
    (∀ ρ' a' u' w', Step Y G B ρ st w ρ' st' w' → AR ρ' n fs' a' → MR ρ' m' u' → Q .normal a' ({ c₀ with mode := u' } :: cs) w') → wpOpsSIn Fence.wide 0 P ops Q (List.range' l k) a ({ c₀ with mode := u } :: cs) w := by
  intro k
  induction k with
  | zero =>
    intro l ρ w fs fs' m m' u st st' a hl h ha hm hr hQ
    rw [List.drop_eq_nil_of_le (by simp; omega)] at hr
    simp only [opsR, Option.some.injEq, Prod.mk.injEq] at hr
    obtain ⟨rfl, rfl, rfl⟩ := hr
    exact hQ ρ a u w (Step.refl h) ha hm
  | succ k ih =>
    intro l ρ w fs fs' m m' u st st' a hl h ha hm hr hQ
    have hlt : l < ops.size := by omega
    have ho : ops[l]? = some ops[l] := by simp [hlt]
    rw [List.drop_eq_getElem_cons (by simpa using hlt)] at hr
    simp only [Array.getElem_toList] at hr
    unfold opsR at hr
    rw [List.range'_succ]
    unfold wpOpsSIn
    rw [ho]
    simp only
    refine ⟨fun _ _ => trivial, ?_⟩
    split at hr
    case h_2 => cases hr
    rename_i hw
    rw [wantA_ok ha.tr hw]
    simp only [if_true]
    cases hrec : isRec ops[l] with
    | true =>
      rw [hrec] at hr
      simp only [cond_true] at hr
      have hrun : (execOp a.eval ops[l]).run P w = .ok .recover w := by
        unfold isRec at hrec
        split at hrec
        case h_2 => cases hrec
        rename_i hop
        simp [execOp, hop, resolve, invoke, builtin]
      rw [hrun]
      simp only
      split at hr
      case h_2 => cases hr
      rename_i tm htm
      rcases recA_ok hm c₀ cs with ⟨v, u', g1, g2, g3⟩ | ⟨g1, g2⟩
      · rw [g1]
        exact ih (l + 1) (by omega) h (ha.put htm g2) g3 hr hQ
      · rw [g1]
        rw [g2] at htm hr
        exact ih (l + 1) (by omega) h (ha.put htm (by simp only [VR])) hm hr hQ
    | false =>
      rw [hrec] at hr
      simp only [cond_false] at hr
      split at hr
      · rename_i v st1 hx
        obtain ⟨ρ1, w1, nx, h1, ⟨u1, rfl, hu1⟩, h3⟩ := wopA_run h (evA_ok ha.tr) hx
        rw [h1]
        simp only
        split at hr
        case h_2 => cases hr
        rename_i tm htm
        exact ih (l + 1) (by omega) h3.hr ((ha.mono h3.le).put htm hu1) (hm.mono h3.le) hr (fun ρ' a' u' w' k1 k2 k3 => hQ ρ' a' u' w' (h3.trans h k1) k2 k3)
      · rename_i st1 hx
        obtain ⟨ρ1, w1, nx, h1, rfl, h3⟩ := wopA_run h (evA_ok ha.tr) hx
        rw [h1]
        simp only
        split at hr
        case h_2 => cases hr
        rename_i tm htm
        exact ih (l + 1) (by omega) h3.hr ((ha.mono h3.le).put htm und_ok) (hm.mono h3.le) hr (fun ρ' a' u' w' k1 k2 k3 => hQ ρ' a' u' w' (h3.trans h k1) k2 k3)
      · cases hr
theorem plainR {s : Sys} (hs : SysX P G s) {n : Nat} {c₀ : Frame} {cs : List Frame} {c : Code} {ρ : Env} {w : World} {fs fs' : FS} {m m' : MD} {u : FrameMode} {st st' : St} {ex : EX} {a : Act} (h : HR Y G B ρ st.h w) (ha : AR ρ n fs a) (hm : MR ρ m u)
    (hr : (match s.exec none Y n c fs st with | some (ex, fs, st) => some (ex, fs, m, st) | none => none) = some (ex, fs', m', st')) (hne : ∀ v, ex ≠ .pan v) :
    c.wpSIn Fence.wide 0 P (SPost Y G B ρ st w n c₀ cs ex fs' m' st') a ({ c₀ with mode := u } :: cs) w := by
  split at hr
  case h_2 => cases hr
  rename_i ex1 fs1 st1 he
  simp only [Option.some.injEq, Prod.mk.injEq] at hr
  obtain ⟨rfl, rfl, rfl, rfl⟩ := hr
  refine wpSIn_of_wpIn rfl (wpIn_mono (hs.exec he h ha (fun l e => by cases e)).wp ?_)
  intro e a1 w1 hx
  cases ex1 with
  | pan v => exact absurd rfl (hne v)
  | _ => obtain ⟨rfl, ρ1, k1, k2⟩ := hx; exact ⟨rfl, hne, ρ1, u, rfl, hm.mono k1.le, k1, k2⟩
theorem execR_sound {s : Sys} (hs : SysX P G s) {n : Nat} {c₀ : Frame} {cs : List Frame} : ∀ (c : Code) {ρ : Env} {w : World} {fs fs' : FS} {m m' : MD} {u : FrameMode} {st st' : St} {ex : EX} {a : Act}, HR Y G B ρ st.h w → AR ρ n fs a → MR ρ m u →
    execR P G s Y n c fs m st = some (ex, fs', m', st') → (∀ v, ex ≠ .pan v) → c.wpSIn Fence.wide 0 P (SPost Y G B ρ st w n c₀ cs ex fs' m' st') a ({ c₀ with mode := u } :: cs) w := by
  intro c
  induction c with
  | seq x y ihx ihy =>
    intro ρ w fs fs' m m' u st st' ex a h ha hm hr hne
    simp only [execR] at hr
    refine wpSIn_seq ?_
    split at hr
    · rename_i fs1 m1 st1 h1
      refine wpSIn_mono (ihx h ha hm h1 (by simp)) ?_
      rintro e a1 cs1 w1 ⟨rfl, _, ρ1, u1, rfl, k1, k2, k3⟩
      refine wpSIn_mono (ihy k2.hr k3 k1 hr hne) ?_
      rintro e2 a2 cs2 w2 ⟨rfl, q0, ρ2, u2, rfl, q1, q2, q3⟩
      exact ⟨rfl, q0, ρ2, u2, rfl, q1, k2.trans h q2, q3⟩
    · rename_i hno
      refine wpSIn_mono (ihx h ha hm hr hne) ?_
      rintro e a1 cs1 w1 ⟨rfl, q0, q⟩
      cases ex with
      | normal => exact absurd hr (hno _ _ _)
      | pan v => exact absurd rfl (q0 v)
      | _ => exact ⟨rfl, q0, q⟩
  | region id ops draw =>
    intro ρ w fs fs' m m' u st st' ex a h ha hm hr hne
    simp only [execR] at hr
    cases hq : ops.toList.any isRec with
    | false =>
      rw [hq] at hr
      exact plainR hs h ha hm hr hne
    | true =>
      rw [hq] at hr
      cases draw with
      | true => cases hr
      | false =>
      simp only [cond_true, cond_false] at hr
      split at hr
      case h_2 => cases hr
      rename_i fs1 m1 st1 h1
      simp only [Option.some.injEq, Prod.mk.injEq] at hr
      obtain ⟨rfl, rfl, rfl, rfl⟩ := hr
      refine wpSIn_region ?_
      rw [List.range_eq_range']
      exact opsR_sound ops.size 0 (by omega) h ha hm (by simpa using h1) (fun ρ' a' u' w' k1 k2 k3 => ⟨rfl, hne, ρ', u', rfl, k3, k1, k2⟩)
  | _ =>
    intro ρ w fs fs' m m' u st st' ex a h ha hm hr hne
    simp only [execR] at hr
    first
      | exact plainR hs h ha hm (by simpa only [recIn, cond_false] using hr) hne
      | (split at hr
         · cases hr
         · exact plainR hs h ha hm hr hne)
      | (generalize hrc : recIn _ = rc at hr
         cases rc with
         | true => cases hr
         | false => exact plainR hs h ha hm hr hne)
theorem dcall_ok {s : Sys} (hs : SysX P G s) {ρ : Env} {w : World} {f : FuncId} {as : List AV} {st st' : St} {m m' : MD} {vs : List Value} {u : FrameMode} (hr : dcallStep P G s Y f as m st = some (m', st')) (h : HR Y G B ρ st.h w) (hv : FR ρ as vs) (hm : MR ρ m u) :
    CallsDIn Fence.wide 0 P f vs.toArray u w (DPost Y G B ρ st w m' st') := by
  unfold dcallStep at hr
  split at hr
  · cases hr
  rename_i fn hf
  split at hr
  · cases hr
  rename_i c hc
  simp only [ble_dec, Bool.cond_decide] at hr
  split at hr
  case isFalse => cases hr
  rename_i hn
  have ha0 : AR ρ fn.ntmps ⟨argsTm 0 as, []⟩ { tmps := vs.toArray ++ Array.replicate (fn.ntmps - vs.toArray.size) undef, defers := [] } := ⟨args_ok hv hn, rfl⟩
  refine callsDIn_of_wpSIn hf hc trivial ?_
  intro c₀ cs hc0
  have e0 : c₀ = { c₀ with mode := u } := by subst hc0; rfl
  have fin : ∀ {ρ1 : Env} {w1 : World} {st1 : St} {fs1 : FS} {m1 : MD} {u1 : FrameMode} {a1 : Act}, dendS P fn fs1 m1 st1 = some (m', st') → Step Y G B ρ st w ρ1 st1 w1 → AR ρ1 fn.ntmps fs1 a1 → MR ρ1 m1 u1 →
      a1.defers = [] ∧ ∃ u', ({ c₀ with mode := u1 } :: cs : List Frame) = { c₀ with mode := u' } :: cs ∧ ∃ v, (results fn a1.tmps).run P w1 = .ok v w1 ∧ DPost Y G B ρ st w m' st' (.returned v) u' w1 := by
    intro ρ1 w1 st1 fs1 m1 u1 a1 hd k1 k2 k3
    unfold dendS at hd
    split at hd
    case h_2 => cases hd
    rename_i x hmk hx
    simp only [Option.some.injEq, Prod.mk.injEq] at hd
    obtain ⟨rfl, rfl⟩ := hd
    have hdf := k2.df
    rw [hmk] at hdf
    obtain ⟨v, _, hrun⟩ := resS_ok (P := P) hx k1.hr k2.tr.gr
    exact ⟨hdf, u1, rfl, v, hrun, ρ1, v, rfl, k3, k1⟩
  rw [show (c₀ :: cs : List Frame) = { c₀ with mode := u } :: cs by rw [← e0]]
  split at hr
  · rename_i fs1 m1 st1 he
    refine wpSIn_mono (execR_sound hs c h ha0 hm he (by simp)) ?_
    rintro e a1 cs1 w1 ⟨rfl, _, ρ1, u1, rfl, k1, k2, k3⟩
    exact fin hr k2 k3 k1
  · rename_i fs1 m1 st1 he
    refine wpSIn_mono (execR_sound hs c h ha0 hm he (by simp)) ?_
    rintro e a1 cs1 w1 ⟨rfl, _, ρ1, u1, rfl, k1, k2, k3⟩
    exact fin hr k2 k3 k1
  · cases hr
/-- THE WHOLE. -/
theorem sys_ok {C : FuncId → Option Bool} (hC : COk P C) (hm : P.follows .mixedOrders = true) : ∀ k, SysX P G (sys P G C k) := by
  intro k
  induction k with
  | zero => exact ⟨⟨fun h => (by cases h), fun h => (by cases h), fun h => (by cases h)⟩, fun h => (by cases h)⟩
  | succ k ih => exact ⟨⟨fun hr h hv => call_ok hC ih hr h hv, fun hr h hv hm' => dcall_ok ih hr h hv hm', fun hr h hy ht hv hd => round_ok ih hr h hy ht hv hd⟩, fun hr h ha hrd => exec_ok ih hm hr h ha hrd⟩

/-- Nothing is known, nothing is there. -/
def env0 : Env := { dom := fun _ => False, blk := fun _ => 0, sh := fun _ => 0, lim := fun _ => 0, sym := fun _ => undef }
def st0 : St := ⟨.e, 0, .e⟩
/-- **A CALL ON CLOSED VALUES, IN WHATEVER WORLD**: what the evaluator answers, if it is closed, the call answers; old memory stays. -/
theorem ev_calls {C : FuncId → Option Bool} (hC : COk P C) (hm : P.follows .mixedOrders = true) (k : Nat) {f : FuncId} {as : List AV} {vs : List Value} {v : AV} {u : Value} {w : World} (hv : FR env0 as vs)
    (hG : ∀ b o x, G b o = some x → b < w.heap.size ∧ ∃ y, w.cell? ⟨b, o, none⟩ = some y ∧ VR env0 x y)
    (hr : ((sys P G C k).call (fun _ => none) f as st0).map (·.1) = some (.ret v)) (hu : toVal v = some u) :
    Calls P f vs.toArray w fun e w' => e = .returned u ∧ Below w.heap.size w w' := by
  cases hc : (sys P G C k).call (fun _ => none) f as st0 with
  | none => rw [hc] at hr; cases hr
  | some r =>
    obtain ⟨v', st'⟩ := r
    rw [hc] at hr
    simp only [Option.map_some, Option.some.injEq] at hr
    subst hr
    have h0 : HR (fun _ => none) G w.heap.size env0 st0.h w := ⟨Nat.le_refl _, fun b hb => hb.elim, fun b x hb => (by cases hb), fun b b' x x' hb => (by cases hb), fun b x hb => (by cases hb), hG⟩
    refine Calls.mono (callsIn_wide.1 ((sys_ok hC hm k).call hc h0 hv)) ?_
    rintro e w' ⟨ρ', ⟨u', rfl, hu'⟩, hst⟩
    exact ⟨by rw [toVal_eq hu hu'], hst.below⟩
theorem COk.none : COk P (fun _ => none) := fun f b h => by cases h
/-- One closed call that answers a Bool, in whatever world. -/
theorem ev_closed {C : FuncId → Option Bool} (hC : COk P C) (hm : P.follows .mixedOrders = true) (k : Nat) {f : FuncId} {b : Bool} (hr : ((sys P (fun _ _ => none) C k).call (fun _ => none) f [] st0).map (·.1) = some (.ret (.bool b))) (w : World) :
    CallsIn Fence.wide 0 P f #[] w (fun e w' => e = .returned (.bool b) ∧ Below w.heap.size w w') :=
  callsIn_wide.2 (ev_calls hC hm k (as := []) (vs := []) rfl (fun b o x h => by cases h) hr rfl)
/-- One closed call more is known. -/
theorem COk.more {C : FuncId → Option Bool} (hC : COk P C) {f : FuncId} {b : Bool} (h : ∀ w, CallsIn Fence.wide 0 P f #[] w (fun e w' => e = .returned (.bool b) ∧ Below w.heap.size w w')) : COk P (fun g => bif Nat.beq g f then some b else C g) := by
  intro g c hg w
  simp only [beq_dec, Bool.cond_decide] at hg
  split at hg
  · rename_i e
    subst e
    cases hg
    exact h w
  · exact hC g c hg w
end
end Go.Ev
