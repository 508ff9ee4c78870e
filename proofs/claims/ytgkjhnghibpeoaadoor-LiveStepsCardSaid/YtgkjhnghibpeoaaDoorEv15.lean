/- Loops over functions, rounds, calls; and all of it together. -/
import Derived.Test.YtgkjhnghibpeoaaDoorEv14
namespace Go.Ev
noncomputable section
open Go Go.RowKit
variable {Y : Nat → Option LoopRec} {G : Nat → Nat → Option AV} {B : Nat} {P : Program}

theorem TK.trans' {ρ ρ₁ : Env} {s s₁ s₂ : St} {w w₁ w₂ : World} (hl : ∀ b x, s.h.get b = some x → x ≠ .dead → ρ₁.blk b = ρ.blk b) (h : TK ρ s w s₁ w₁) (k : TK ρ₁ s₁ w₁ s₂ w₂) : TK ρ s w s₂ w₂ := by
  refine ⟨fun b => Nat.le_trans (h.mono b) (k.mono b), fun b x hx hd hc => ?_⟩
  have h1 := h.mono b
  have h2 := k.mono b
  obtain ⟨g1, g2⟩ := h.keep b x hx hd (by omega)
  obtain ⟨g3, g4⟩ := k.keep b x g1 hd (by omega)
  refine ⟨g3, ?_⟩
  rw [hl b x hx hd] at g4
  exact g4.trans g2
theorem BR.withL {ρ : Env} {w : World} {b lid : Nat} {y : LoopRec} {x : Bl} (h : BR Y ρ w b x) (hb : b ≠ lid) : BR (Ev.withL Y lid y) ρ w b x := by
  cases x with
  | lp s j =>
    obtain ⟨y', fn, tmps, df, h1, h2⟩ := h
    exact ⟨y', fn, tmps, df, by unfold Ev.withL; rw [beq_dec]; simp [hb, h1], h2⟩
  | _ => exact h
theorem BR.outL {ρ : Env} {w : World} {b lid : Nat} {y : LoopRec} {x : Bl} (h : BR (Ev.withL Y lid y) ρ w b x) (hb : b ≠ lid) : BR Y ρ w b x := by
  cases x with
  | lp s j =>
    obtain ⟨y', fn, tmps, df, h1, h2⟩ := h
    refine ⟨y', fn, tmps, df, ?_, h2⟩
    unfold Ev.withL at h1; rw [beq_dec] at h1; simpa [hb] using h1
  | _ => exact h
theorem HR.withL {ρ : Env} {t : Tr Bl} {w : World} (h : HR Y G B ρ t w) {lid : Nat} {y : LoopRec} (hl : t.get lid = none) : HR (Ev.withL Y lid y) G B ρ t w :=
  ⟨h.base, h.dom, h.live, h.inj, fun b x hb => (h.blk b x hb).withL (by rintro rfl; rw [hl] at hb; cases hb), h.glob⟩
theorem HR.outL {ρ : Env} {t : Tr Bl} {w : World} {lid : Nat} {y : LoopRec} (h : HR (Ev.withL Y lid y) G B ρ t w) (hl : t.get lid = some .dead) : HR Y G B ρ t w :=
  ⟨h.base, h.dom, h.live, h.inj, fun b x hb => by
    by_cases e : b = lid
    · subst e; rw [hl] at hb; cases hb; trivial
    · exact (h.blk b x hb).outL e, h.glob⟩

theorem XPost.of {ρ : Env} {st st' : St} {w w' : World} {n : Nat} {ex : EX} {fs' : FS} {a' : Act} (hne : ∀ v, ex ≠ .pan v) (h : ∃ ρ', Step Y G B ρ st w ρ' st' w' ∧ AR ρ' n fs' a') : XPost Y G B ρ st w n ex fs' st' ex.toExit a' w' := by
  cases ex with
  | pan v => exact absurd rfl (hne v)
  | _ => exact ⟨rfl, h⟩
theorem exOf_ne (j : Option JX) (v : AV) : exOf j ≠ .pan v := by
  cases j with
  | none => simp [exOf]
  | some x => cases x <;> simp [exOf]
theorem exOf_code (j : Option JX) (F : Fence) (Q : Exit → Act → World → Prop) (a : Act) (w : World) (h : Q (exOf j).toExit a w) :
    match j.map JX.code with
    | none => Q .normal a w
    | some c => c.wpIn F 0 P Q a w := by
  cases j with
  | none => exact h
  | some x =>
    cases x with
    | ret => exact wpIn_ret h
    | exit id => exact wpIn_exit h
    | goto l => exact wpIn_goto h
/-- The loop's record is shut, and the loop is left. -/
theorem over_ok {s : Sys} (hs : SysX P G s) {ρ ρ1 : Env} {w w1 : World} {ro : Option Nat} {n lid : Nat} {y : LoopRec} {g : FuncId} {as : List AV} {vs : List Value} {fs1 fs' : FS} {st st1 st' : St} {ex : EX} {a1 : Act}
    (hr : overS lid fs1 (s.call (withL Y lid y) g as st1) = some (ex, fs', st')) (h : HR Y G B ρ st.h w) (hle : ρ.Le ρ1) (h1 : HR (withL Y lid y) G B ρ1 st1.h w1) (hbel : Below B w w1) (htk : TK ρ st w st1 w1) (hlid : st.h.get lid = none)
    (ha : ∀ ρ', ρ1.Le ρ' → AR ρ' n fs1 a1) (hvs : FR ρ1 as vs) (hdl : ρ1.dom lid) :
    CallsIn Fence.wide 0 P g vs.toArray w1 (rangePost (FF ro) 0 P (ρ1.blk lid) (XPost Y G B ρ st w n ex fs' st') a1) := by
  unfold overS at hr
  split at hr
  case h_2 => cases hr
  rename_i v st2 hc
  refine CallsIn.mono (hs.call hc h1 hvs) ?_
  rintro e w2 ⟨ρ2, ⟨u, rfl, hu⟩, h2⟩
  have fin : ∀ {sl j}, st2.h.get lid = some (.lp sl j) → sl ≠ .busy → (exOf j, fs1, st2.put lid .dead) = (ex, fs', st') → ∃ jump w₄, (Instr.endLoop (ρ1.blk lid)).run P w2 = .ok jump w₄ ∧
      (match jump with | none => XPost Y G B ρ st w n ex fs' st' .normal a1 w₄ | some c => c.wpIn (FF ro) 0 P (XPost Y G B ρ st w n ex fs' st') a1 w₄) := by
    intro sl j hg hb he
    simp only [Prod.mk.injEq] at he
    obtain ⟨rfl, rfl, rfl⟩ := he
    obtain ⟨y', fn, tmps, df, g1, g2, g3⟩ := h2.hr.blk lid _ hg
    have hblk := h2.le.blk lid hdl
    rw [hblk] at g3
    have hw : ∀ i, i ≠ ρ2.blk lid → i < w2.heap.size → (w2.heap.setIfInBounds (ρ1.blk lid) (.loop { state := .exhausted, pending := j.map JX.code, fn := fn, tmps := tmps, params := y'.params.toArray, assign := y'.assign, body := y'.body, defers := df }))[i]? = w2.heap[i]? := fun i hi _ => by
      rw [hblk] at hi
      rw [Array.getElem?_setIfInBounds_ne (by omega)]
    have hkill := (h2.hr.kill hg).outL (by rw [Tr.get_set, if_pos rfl])
    have hsz := (Array.getElem?_eq_some_iff.1 g3).1
    refine ⟨j.map JX.code, { w2 with heap := w2.heap.setIfInBounds (ρ1.blk lid) (.loop { state := .exhausted, pending := j.map JX.code, fn := fn, tmps := tmps, params := y'.params.toArray, assign := y'.assign, body := y'.body, defers := df }) }, ?_, ?_⟩
    · have hsb : (sl == LoopState.busy) = false := by simpa using hb
      simp only [Instr.endLoop, Instr.getLoop, getObj, Sem.run_bind, Sem.run, g3, Result.andThen_ok, Sem.run_pure, hsb]
      simp only [Bool.false_eq_true, if_false, setObj, Sem.run_bind, Sem.run, g3, Result.andThen_ok, Sem.run_pure]
    · refine exOf_code j _ _ _ _ (XPost.of (exOf_ne j) ⟨ρ2, ⟨hle.trans h2.le, ?_, (hbel.trans h2.below).trans (h2.hr.below hg (by simp) ⟨rfl, rfl, rfl⟩ hw (by simp)), ?_⟩, ha ρ2 h2.le⟩)
      · refine ⟨by simpa using hkill.base, hkill.dom, hkill.live, hkill.inj, fun b x hb => ?_, fun b o v hv => ?_⟩
        · by_cases hd : x = .dead
          · subst hd; trivial
          · have hbl : b ≠ lid := by
              rintro rfl
              have : (st2.put b .dead).h.get b = some .dead := by rw [St.get_put, if_pos rfl]
              rw [this] at hb; cases hb; exact hd rfl
            have hb' : st2.h.get b = some x := by rw [St.get_put, if_neg hbl] at hb; exact hb
            exact (hkill.blk b x (by rw [Tr.get_set, if_neg hbl]; exact hb')).congr (hw _ (fun e => hbl (h2.hr.inj b lid x _ hb' hg hd (by simp) e)) ((h2.hr.blk b x hb').there hd))
        · obtain ⟨q1, u, q2, q3⟩ := hkill.glob b o v hv
          refine ⟨q1, u, ?_, q3⟩
          rw [← q2]
          exact World.cell?_of_block (hw b (by have := (h2.hr.live lid _ hg (by simp)).2; show b ≠ _; omega) (by have := h2.hr.base; show b < _; omega))
      · refine TK.trans' (fun b x hx hd => by rw [h2.le.blk b (hle.dom b (h.live b x hx hd).1), hle.blk b (h.live b x hx hd).1]) (TK.trans' (fun b x hx hd => hle.blk b (h.live b x hx hd).1) htk h2.tk) (TK.put h2.hr hg (by simp) hw)
  split at hr
  · cases hr
  · rename_i sl j hne hg
    simp only [Option.some.injEq] at hr
    exact fin hg hne hr
  · cases hr
theorem frL {ρ : Env} {xs ys : List AV} {l : Nat} {us vs : List Value} (hx : FR ρ xs us) (hy : FR ρ ys vs) (hd : ρ.dom l) : FR ρ (xs ++ [.yl l] ++ ys) (us ++ [.func (.yield (ρ.blk l)) #[] #[]] ++ vs) :=
  (hx.append (show FR ρ [AV.yl l] [Value.func (.yield (ρ.blk l)) #[] #[]] from ⟨_, [], by simp only [VR]; exact ⟨hd, trivial⟩, rfl, rfl⟩)).append hy
theorem range_wp {s : Sys} (hs : SysX P G s) {ρ : Env} {w : World} {rd : Option Nat} {n : Nat} {f : Operand} {params : Array Tmp} {assign body : Code} {fs fs' : FS} {st st' : St} {ex : EX} {a : Act}
    (hr : rangeS P s rd Y ⟨n, fs.tm, params.toList, assign, body⟩ (evA fs.tm f) fs st = some (ex, fs', st')) (h : HR Y G B ρ st.h w) (ha : AR ρ n fs a) (hrd : ∀ l, rd = some l → ρ.dom l) :
    (Code.rangeFunc f params assign body).wpIn (FF (rd.map ρ.blk)) 0 P (XPost Y G B ρ st w n ex fs' st') a w := by
  unfold rangeS at hr
  split at hr
  case h_2 => cases hr
  rename_i g xa ya hf
  split at hr
  case h_2 => cases hr
  rename_i fn xs ys hfn hxs hys
  cases hq : fn.body.isSome && !(fn.name == "runtime.NumGoroutine") with
  | false => rw [hq] at hr; cases hr
  | true =>
  rw [hq] at hr
  simp only [cond_true] at hr
  simp only [Bool.and_eq_true, Bool.not_eq_true'] at hq
  obtain ⟨hq1, hq2⟩ := hq
  have hv := evA_ok ha.tr f _ hf
  simp only [VR] at hv
  obtain ⟨us, vs, hus, hvs, hv⟩ := hv
  have hbn : ¬ fn.body = none := by rintro e; rw [e] at hq1; cases hq1
  have hq3 : ¬ fn.name = "runtime.NumGoroutine" := by simpa using hq2
  have hcallrun : ∀ (l : Nat) (W : World), (resolve a.eval (rangeCall f l) 0).run P W = .ok { target := .fn (.func g) vs.toArray, args := us.toArray ++ #[Value.func (.yield l) #[] #[]] } W := fun l W => by
    have hc : a.eval (.const (.func (.yield l) #[] #[])) = Value.func (.yield l) #[] #[] := rfl
    simp [resolve, hv, Deferred.ofValue, hc]
  have hinv : ∀ (l : Nat) (W : World), (invoke (.fn (.func g) vs.toArray) (us.toArray ++ #[Value.func (.yield l) #[] #[]])).run P W = .ok (.enter g (us ++ [Value.func (.yield l) #[] #[]] ++ vs).toArray) W := fun l W => by
    simp [invoke, callFunc, hfn, hq3, hbn]
  cases rd with
  | none =>
    simp only at hr
    unfold rangeOut at hr
    split at hr
    case h_2 => cases hr
    rename_i hd1 hd2
    refine wpIn_rangeFunc (fun fnid _ => ?_)
    let o1 : Obj := .deferred (some [])
    let o2 : Obj := .loop { state := .ready, pending := none, fn := fnid, tmps := a.tmps, params := params, assign := assign, body := body, defers := w.heap.size }
    have hA : HR Y G B (ρ.ext st.next w.heap.size 0 0) (st.add st.next .df).h (w.alloc o1) := h.new hd1 o1 .df (by simp) 0 0 (by show _ = _; simp only [Env.ext, if_true]; exact heap_alloc_new w _)
    have hleA := ρ.le_ext st.next w.heap.size 0 0 (h.fresh hd1)
    have hd2' : (st.add st.next .df).h.get (st.next + 1) = none := by rw [St.get_add, if_neg (by omega)]; exact hd2
    have hsz : (w.alloc o1).heap.size = w.heap.size + 1 := by simp
    have hBr : BR (withL Y (st.next + 1) ⟨n, fs.tm, params.toList, assign, body⟩) ((ρ.ext st.next w.heap.size 0 0).ext (st.next + 1) (w.heap.size + 1) 0 0) ((w.alloc o1).alloc o2) (st.next + 1) (.lp .ready none) := by
      refine ⟨⟨n, fs.tm, params.toList, assign, body⟩, fnid, a.tmps, w.heap.size, by unfold withL; rw [beq_dec]; simp, ?_, ?_⟩
      · exact ha.tr.mono (hleA.trans (Env.le_ext _ _ _ _ _ (hA.fresh hd2')))
      · simp only [Env.ext, if_true]
        have := heap_alloc_new (w.alloc o1) o2
        rw [hsz] at this
        simpa using this
    have hB0 := (hA.withL (y := ⟨n, fs.tm, params.toList, assign, body⟩) hd2').new hd2' o2 (.lp .ready none) (by simp) 0 0 (by rw [hsz]; exact hBr)
    rw [hsz] at hB0
    have hleB := (ρ.ext st.next w.heap.size 0 0).le_ext (st.next + 1) (w.heap.size + 1) 0 0 (hA.fresh hd2')
    have hle := hleA.trans hleB
    have hdl : ((ρ.ext st.next w.heap.size 0 0).ext (st.next + 1) (w.heap.size + 1) 0 0).dom (st.next + 1) := .inr rfl
    have hdd : ((ρ.ext st.next w.heap.size 0 0).ext (st.next + 1) (w.heap.size + 1) 0 0).dom st.next := .inl (.inr rfl)
    have hbl : ((ρ.ext st.next w.heap.size 0 0).ext (st.next + 1) (w.heap.size + 1) 0 0).blk (st.next + 1) = w.heap.size + 1 := by simp [Env.ext]
    have hbd : ((ρ.ext st.next w.heap.size 0 0).ext (st.next + 1) (w.heap.size + 1) 0 0).blk st.next = w.heap.size := by simp [Env.ext]
    have hbel : Below B w ((w.alloc o1).alloc o2) := ((Below.refl B w).alloc h.base _).alloc (by rw [hsz]; have := h.base; omega) _
    have htk : TK ρ st w ((st.add st.next .df).add (st.next + 1) (.lp .ready none)) ((w.alloc o1).alloc o2) :=
      TK.trans' (fun b x hx hd => hleA.blk b (h.live b x hx hd).1) (TK.add h hd1 (fun j hj => Below.heap_alloc w _ j hj)) (TK.add hA hd2' (fun j hj => Below.heap_alloc _ _ j hj))
    have hover := over_ok hs (ro := none) (n := n) (a1 := { a with defers := [{ target := .collected w.heap.size, args := #[] }] ++ a.defers }) hr h hle hB0 hbel htk hd2 (fun ρ' hl => ?_) (frL ((LR.fr hxs hus).mono hle) ((LR.fr hys hvs).mono hle) hdl) hdl
    · refine ⟨w.heap.size + 1, [{ target := .collected w.heap.size, args := #[] }], (w.alloc o1).alloc o2, _, _, g, _, _, ?_, hcallrun _ _, fun _ _ => trivial, hinv _ _, fun q => (by cases q), ?_⟩
      · simp [Instr.enterLoop, FF, o1, o2]
      · rw [hbl] at hover
        exact hover
    · exact ⟨(ha.tr.mono hle).mono hl, _, _, ⟨hl.dom _ hdd, by rw [hl.blk _ hdd, hbd]⟩, (ha.df.mono hle).mono hl, rfl⟩
  | some l0 =>
    simp only at hr
    unfold rangeIn at hr
    split at hr
    case h_2 => cases hr
    rename_i s0 j0 hl0 hd2
    obtain ⟨y0, fn0, tmps0, df0, g1, g2, g3⟩ := h.blk l0 _ hl0
    refine wpIn_rangeFunc (fun fnid _ => ?_)
    let o2 : Obj := .loop { state := .ready, pending := none, fn := fnid, tmps := a.tmps, params := params, assign := assign, body := body, defers := df0 }
    have hle := ρ.le_ext st.next w.heap.size 0 0 (h.fresh hd2)
    have hBr : BR (withL Y st.next ⟨n, fs.tm, params.toList, assign, body⟩) (ρ.ext st.next w.heap.size 0 0) (w.alloc o2) st.next (.lp .ready none) := by
      refine ⟨⟨n, fs.tm, params.toList, assign, body⟩, fnid, a.tmps, df0, by unfold withL; rw [beq_dec]; simp, ha.tr.mono hle, ?_⟩
      simp only [Env.ext, if_true]
      have := heap_alloc_new w o2
      simpa using this
    have hB0 := (h.withL (y := ⟨n, fs.tm, params.toList, assign, body⟩) hd2).new hd2 o2 (.lp .ready none) (by simp) 0 0 hBr
    have hdl : (ρ.ext st.next w.heap.size 0 0).dom st.next := .inr rfl
    have hbl : (ρ.ext st.next w.heap.size 0 0).blk st.next = w.heap.size := by simp [Env.ext]
    have hover := over_ok hs (ro := some (ρ.blk l0)) (n := n) (a1 := a) hr h hle hB0 ((Below.refl B w).alloc h.base _) (TK.add h hd2 (fun j hj => Below.heap_alloc w _ j hj)) hd2 (fun ρ' hl => (ha.mono hle).mono hl)
      (frL ((LR.fr hxs hus).mono hle) ((LR.fr hys hvs).mono hle) hdl) hdl
    refine ⟨w.heap.size, [], w.alloc o2, _, _, g, _, _, ?_, hcallrun _ _, fun _ _ => trivial, hinv _ _, fun q => (by cases q), ?_⟩
    · simp only [Option.map_some, FF, Instr.enterLoop, Instr.getLoop, getObj, Sem.run_bind, Sem.run, g3, Result.andThen_ok, Sem.run_pure, run_newObj]
      rfl
    · rw [hbl] at hover
      exact hover
/-! ### Rounds -/
theorem setAll_ok {ρ : Env} {n : Nat} : ∀ {ps : List Tmp} {xs : List AV} {vs : List Value} {tm tm' : Tr AV} {tmps : Array Value}, setAll n ps xs tm = some tm' → TR ρ n tm tmps → FR ρ xs vs → TR ρ n tm' (foldT ps vs tmps) := by
  intro ps
  induction ps with
  | nil =>
    intro xs vs tm tm' tmps h ht hv
    cases xs with
    | nil => simp only [setAll, Option.some.injEq] at h; subst h; cases hv; exact ht
    | cons x t => simp [setAll] at h
  | cons p t ih =>
    intro xs vs tm tm' tmps h ht hv
    cases xs with
    | nil => simp [setAll] at h
    | cons x xt =>
      obtain ⟨v, l', h1, h2, rfl⟩ := hv
      simp only [setAll, ble_dec, Bool.cond_decide] at h
      split at h
      case isFalse => cases h
      rename_i hp
      have := (putA_ok (a := ⟨tmps, []⟩) (dst := some p) (tm' := tm.set p x) ht (by simp only [putA, ble_dec, Bool.cond_decide]; rw [if_pos hp]) h1).1
      exact ih h this h2
theorem HR.lpSet {ρ : Env} {st : St} {w : World} {l : Nat} {s s' : LoopState} {j j' : Option JX} (h : HR Y G B ρ st.h w) (hl : st.h.get l = some (.lp s j)) :
    ∃ fn tmps df y, Y l = some y ∧ w.heap[ρ.blk l]? = some (.loop { state := s, pending := j.map JX.code, fn := fn, tmps := tmps, params := y.params.toArray, assign := y.assign, body := y.body, defers := df }) ∧
      Step Y G B ρ st w ρ (st.put l (.lp s' j')) { w with heap := w.heap.setIfInBounds (ρ.blk l) (.loop { state := s', pending := j'.map JX.code, fn := fn, tmps := tmps, params := y.params.toArray, assign := y.assign, body := y.body, defers := df }) } := by
  obtain ⟨y, fn, tmps, df, g1, g2, g3⟩ := h.blk l _ hl
  have hw : ∀ i, i ≠ ρ.blk l → i < w.heap.size → (w.heap.setIfInBounds (ρ.blk l) (.loop { state := s', pending := j'.map JX.code, fn := fn, tmps := tmps, params := y.params.toArray, assign := y.assign, body := y.body, defers := df }))[i]? = w.heap[i]? := fun i hi _ => by
    rw [Array.getElem?_setIfInBounds_ne (by omega)]
  have hsz := (Array.getElem?_eq_some_iff.1 g3).1
  refine ⟨fn, tmps, df, y, g1, g3, .refl _, h.set hl (by simp) (by simp) hw (by simp) ⟨y, fn, tmps, df, g1, g2, ?_⟩, h.below hl (by simp) ⟨rfl, rfl, rfl⟩ hw (by simp), TK.put h hl (by simp) hw⟩
  simp [hsz]
theorem round_ok {s : Sys} (hs : SysX P G s) {ρ : Env} {w : World} {l : Nat} {xs : List AV} {st st' : St} {v : AV} {y : LoopRec} {fn : FuncId} {tmps : Array Value} {vs : List Value}
    (hr : roundStep s Y l xs st = some (v, st')) (h : HR Y G B ρ st.h w) (hy : Y l = some y) (ht : TR ρ y.n y.tm tmps) (hv : FR ρ xs vs) (hd : ρ.dom l) :
    RoundIn Fence.wide 0 P (ρ.blk l) fn (foldT y.params vs tmps) y.assign y.body w (CPost Y G B ρ st w (.ret v) st') := by
  unfold roundStep at hr
  rw [hy] at hr
  simp only at hr
  split at hr
  · cases hr
  rename_i tm htm
  split at hr
  case h_2 => cases hr
  rename_i fs1 st1 he1
  split at hr
  case h_2 => cases hr
  rename_i j hmk hl1
  split at hr
  case h_2 => cases hr
  rename_i ex fs2 st2 he2
  split at hr
  case h_2 => cases hr
  rename_i s2 j2 hmk2 hl2
  have hrd : ∀ {ρ' : Env}, ρ'.dom l → ∀ k, some l = some k → ρ'.dom k := fun hdl k e => by cases e; exact hdl
  have ha0 : AR ρ y.n ⟨tm, []⟩ { tmps := foldT y.params vs tmps, defers := [] } := ⟨setAll_ok htm ht hv, rfl⟩
  refine roundIn_of_wpIn (F := Fence.wide) (n := 0) trivial ?_
  rw [← FF_some]
  refine wpIn_mono (hs.exec he1 h ha0 (hrd hd)).wp ?_
  rintro e a1 w1 ⟨rfl, ρ1, k1, k2⟩
  simp only [EX.toExit, Exit.then]
  have hd1 := k1.le.dom l hd
  have hb1 := k1.le.blk l hd
  obtain ⟨fn1, tmps1, df1, y1, g1, g2, g3⟩ := k1.hr.lpSet (s' := .busy) (j' := j) hl1
  rw [hb1] at g2 g3
  refine ⟨{ w1 with heap := w1.heap.setIfInBounds (ρ.blk l) (.loop { state := .busy, pending := j.map JX.code, fn := fn1, tmps := tmps1, params := y1.params.toArray, assign := y1.assign, body := y1.body, defers := df1 }) }, ?_, ?_⟩
  · simp only [Instr.beginRound, Instr.getLoop, getObj, setObj, Sem.run_bind, Sem.run, g2, Result.andThen_ok, Sem.run_pure]
  have hx := (hs.exec he2 g3.hr (k2.mono g3.le) (hrd (g3.le.dom l hd1))).wp
  rw [show FF (Option.map ρ1.blk (some l)) = FF (some (ρ.blk l)) by simp only [Option.map_some, hb1]] at hx
  refine wpIn_mono hx ?_
  intro e a2 w2 hxp
  cases ex with
  | pan x => cases hr
  | _ =>
    obtain ⟨rfl, ρ2, m1, m2⟩ := hxp
    have hstep := (k1.trans h (g3.trans k1.hr m1))
    have hb2 := hstep.le.blk l hd
    have fin : ∀ {b : Bool} {s' j'}, some (AV.bool b, st2.put l (.lp s' j')) = some (v, st') → ∀ (jc : Option Code), j'.map JX.code = jc → (b = jc.isNone) → (s' = if jc.isNone then LoopState.ready else .done) →
        ∃ v' w', (Instr.endRound (ρ.blk l) jc).run P w2 = .ok v' w' ∧ CPost Y G B ρ st w (.ret v) st' (.returned v') w' := by
      intro b s' j' hh jc hjc hb hs'
      simp only [Option.some.injEq, Prod.mk.injEq] at hh
      obtain ⟨rfl, rfl⟩ := hh
      obtain ⟨fn2, tmps2, df2, y2, q1, q2, q3⟩ := m1.hr.lpSet (s' := s') (j' := j') hl2
      rw [hb2] at q2 q3
      refine ⟨.bool jc.isNone, _, ?_, ρ2, ⟨.bool jc.isNone, rfl, by simp only [VR]; rw [hb]⟩, hstep.trans h q3⟩
      simp only [Instr.endRound, Instr.getLoop, getObj, setObj, Sem.run_bind, Sem.run, q2, Result.andThen_ok, Sem.run_pure]
      rw [hs', hjc]
    first
      | exact fin hr none rfl rfl rfl
      | exact fin hr (some .ret) rfl rfl rfl
      | exact fin hr (some (.exit _)) rfl rfl rfl
      | exact fin hr (some (.goto _)) rfl rfl rfl
end
end Go.Ev
