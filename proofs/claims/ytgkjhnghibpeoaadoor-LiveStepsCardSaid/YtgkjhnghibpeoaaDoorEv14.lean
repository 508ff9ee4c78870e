/- Code, calls and rounds: the machine does them so. -/
import Derived.Test.YtgkjhnghibpeoaaDoorEv13
namespace Go.Ev
noncomputable section
open Go Go.RowKit
variable {Y : Nat → Option LoopRec} {G : Nat → Nat → Option AV} {B : Nat} {P : Program}

def LoopW (F : Fence) (P : Program) (c : Code) (Q : Exit → Act → World → Prop) (a : Act) (w : World) : Prop :=
  ∀ (b : Frame) (k : List Item) (cs : List Frame), b.roundOf = F.round → F.fn b.fn → F.room (cs.length + 1 + 0) →
    ∃ e a' w', Q e a' w' ∧ ArrivesIn (Machine.fenced P F) P (lone (b.atR a (.code c :: .inLoop c :: k)) cs w) b k cs e a' w'
theorem loopW_wp {F : Fence} {c : Code} {Q : Exit → Act → World → Prop} {a : Act} {w : World} (h : LoopW F P c Q a w) : (Code.loop c).wpIn F 0 P Q a w := by
  intro b k cs hro hb hr
  obtain ⟨e, a', w', hq, harr⟩ := h b k cs hro hb hr
  exact ⟨e, a', w', hq, .of_steps (.one (fenced_calm hb hr rfl) stepR_loop) harr⟩
theorem loopW_step {F : Fence} {c : Code} {Q : Exit → Act → World → Prop} {a : Act} {w : World} (h : c.wpIn F 0 P (Exit.then (LoopW F P c Q) Q) a w) : LoopW F P c Q a w := by
  intro b k cs hro hb hr
  obtain ⟨e, a₁, w₁, hq, harr⟩ := h b (.inLoop c :: k) cs hro hb hr
  cases e with
  | normal =>
    obtain ⟨e₂, a₂, w₂, hq₂, harr₂⟩ := hq b k cs hro hb hr
    exact ⟨e₂, a₂, w₂, hq₂, .of_steps (StepsIn.trans harr (.one (fenced_calm hb hr rfl) stepR_inLoop)) harr₂⟩
  | exit id => exact ⟨_, a₁, w₁, hq, .pass (x := .inLoop c) rfl (fun _ _ => .inl (by simp)) harr⟩
  | goto l => exact ⟨_, a₁, w₁, hq, .pass (x := .inLoop c) rfl (fun _ _ => .inl (by simp)) harr⟩
  | ret => exact ⟨_, a₁, w₁, hq, .pass (x := .inLoop c) rfl (fun _ _ => .inl (by simp)) harr⟩
  | panic ch => exact ⟨_, a₁, w₁, hq, .pass (x := .inLoop c) rfl (fun _ _ => .inl (by simp)) harr⟩
  | outgrown => exact ⟨_, a₁, w₁, hq, .pass (x := .inLoop c) rfl (fun _ _ => .inl (by simp)) harr⟩
def WPc (F : Fence) (P : Program) (c : Code) (Q : Exit → Act → World → Prop) (a : Act) (w : World) : Prop := match c with
  | .loop b => LoopW F P b Q a w
  | c => c.wpIn F 0 P Q a w
theorem WPc.wp {F : Fence} {c : Code} {Q : Exit → Act → World → Prop} {a : Act} {w : World} (h : WPc F P c Q a w) : c.wpIn F 0 P Q a w := by
  cases c <;> first | exact loopW_wp h | exact h
def EX.toExit : EX → Exit
  | .normal => .normal
  | .ret => .ret
  | .exit id => .exit id
  | .goto l => .goto l
  | .pan _ => .normal
def XPost (Y : Nat → Option LoopRec) (G : Nat → Nat → Option AV) (B : Nat) (ρ : Env) (st : St) (w : World) (n : Nat) (ex : EX) (fs' : FS) (st' : St) : Exit → Act → World → Prop :=
  fun e a' w' => match ex with
    | .pan v => ∃ ρ' u, e = .panic [{ v := u, recovered := false }] ∧ VR ρ' v u ∧ Step Y G B ρ st w ρ' st' w' ∧ PTR ρ' fs'.tm a'.tmps ∧ DsR ρ' fs'.mks a'.defers
    | ex => e = ex.toExit ∧ ∃ ρ', Step Y G B ρ st w ρ' st' w' ∧ AR ρ' n fs' a'
structure SysX (P : Program) (G : Nat → Nat → Option AV) (s : Sys) : Prop extends SysOk P G s where
  exec : ∀ {Y B ρ w rd n c fs st ex fs' st' a}, s.exec rd Y n c fs st = some (ex, fs', st') → HR Y G B ρ st.h w → AR ρ n fs a → (∀ l, rd = some l → ρ.dom l) →
    WPc (FF (rd.map ρ.blk)) P c (XPost Y G B ρ st w n ex fs' st') a w
theorem FF_le {ρ ρ' : Env} {rd : Option Nat} (h : ∀ l, rd = some l → ρ.dom l) (hl : ρ.Le ρ') : FF (rd.map ρ'.blk) = FF (rd.map ρ.blk) := by
  cases rd with
  | none => rfl
  | some l => simp only [Option.map_some]; rw [hl.blk l (h l rfl)]
theorem XPost.trans {ρ ρ1 : Env} {st st1 st2 : St} {w w1 : World} {n : Nat} {ex : EX} {fs' : FS} (h : HR Y G B ρ st.h w) (hs : Step Y G B ρ st w ρ1 st1 w1) {e : Exit} {a' : Act} {w' : World}
    (hx : XPost Y G B ρ1 st1 w1 n ex fs' st2 e a' w') : XPost Y G B ρ st w n ex fs' st2 e a' w' := by
  cases ex with
  | pan v => obtain ⟨ρ', u, h0, h1, h2, h3⟩ := hx; exact ⟨ρ', u, h0, h1, hs.trans h h2, h3⟩
  | _ => obtain ⟨he, ρ', h1, h2⟩ := hx; exact ⟨he, ρ', hs.trans h h1, h2⟩
theorem Step.nextNo {ρ ρ' : Env} {st st' : St} {w w' : World} {m : Nat} (h : Step Y G B ρ ⟨st.h, m, st.wc⟩ w ρ' st' w') : Step Y G B ρ st w ρ' st' w' := ⟨h.le, h.hr, h.below, h.tk.mono, h.tk.keep⟩

theorem seq_wp {s : Sys} (hs : SysX P G s) {ρ : Env} {w : World} {rd : Option Nat} {n : Nat} {a b : Code} {fs fs' : FS} {st st' : St} {ex : EX} {ac : Act} (hr : seqS s rd Y n a b fs st = some (ex, fs', st')) (h : HR Y G B ρ st.h w) (ha : AR ρ n fs ac) (hrd : ∀ l, rd = some l → ρ.dom l)
    (K : Act → World → Prop) (hK : ∀ {ρ1 fs1 st1 a1 w1}, Step Y G B ρ st w ρ1 st1 w1 → AR ρ1 n fs1 a1 → s.exec rd Y n b fs1 st1 = some (ex, fs', st') → K a1 w1) :
    a.wpIn (FF (rd.map ρ.blk)) 0 P (Exit.then K (XPost Y G B ρ st w n ex fs' st')) ac w := by
  unfold seqS at hr
  split at hr
  · rename_i fs1 st1 h1
    refine wpIn_mono (hs.exec h1 h ha hrd).wp ?_
    rintro e a1 w1 ⟨rfl, ρ1, g1, g2⟩
    exact hK g1 g2 hr
  · rename_i hno
    refine wpIn_mono (hs.exec hr h ha hrd).wp ?_
    intro e a1 w1 hx
    cases ex with
    | normal => exact absurd hr (hno _ _)
    | pan v => obtain ⟨ρ1, u, rfl, h2⟩ := hx; exact ⟨ρ1, u, rfl, h2⟩
    | _ => obtain ⟨rfl, ρ1, g1, g2⟩ := hx; exact ⟨rfl, ρ1, g1, g2⟩
/-! ### Scopes -/
def ScopeW (F : Fence) (P : Program) (c body : Code) (Q : Exit → Act → World → Prop) (a : Act) (w : World) : Prop :=
  ∀ (b : Frame) (k : List Item) (cs : List Frame), b.roundOf = F.round → F.fn b.fn → F.room (cs.length + 1 + 0) →
    ∃ e a' w', Q e a' w' ∧ ArrivesIn (Machine.fenced P F) P (lone (b.atR a (.code body :: .inScope c :: k)) cs w) b k cs e a' w'
theorem stepR_scope {b : Frame} {a : Act} {c : Code} {k : List Item} {cs : List Frame} {w : World} : step P (lone (b.atR a (.code (.scope c) :: k)) cs w) = .next (lone (b.atR a (.code c :: .inScope c :: k)) cs w) :=
  step_lone_go (by simp [stepG, stepG.exec, Frame.atR])
theorem stepR_inScope {b : Frame} {a : Act} {c : Code} {k : List Item} {cs : List Frame} {w : World} : step P (lone (b.atR a (.inScope c :: k)) cs w) = .next (lone (b.atR a k) cs w) :=
  step_lone_go (by simp [stepG, stepG.exec, Frame.atR])
theorem scopeW_wp {F : Fence} {c : Code} {Q : Exit → Act → World → Prop} {a : Act} {w : World} (h : ScopeW F P c c Q a w) : (Code.scope c).wpIn F 0 P Q a w := by
  intro b k cs hro hb hr
  obtain ⟨e, a', w', hq, harr⟩ := h b k cs hro hb hr
  exact ⟨e, a', w', hq, .of_steps (.one (fenced_calm hb hr rfl) stepR_scope) harr⟩
def ScopeQ (F : Fence) (P : Program) (c : Code) (Q : Exit → Act → World → Prop) : Exit → Act → World → Prop
  | .goto l, a, w => (∃ rest, findLabel c l = some rest ∧ ScopeW F P c rest Q a w) ∨ (findLabel c l = none ∧ Q (.goto l) a w)
  | e, a, w => Q e a w
theorem scopeW_step {F : Fence} {c body : Code} {Q : Exit → Act → World → Prop} {a : Act} {w : World} (h : body.wpIn F 0 P (ScopeQ F P c Q) a w) : ScopeW F P c body Q a w := by
  intro b k cs hro hb hr
  obtain ⟨e, a₁, w₁, hq, harr⟩ := h b (.inScope c :: k) cs hro hb hr
  cases e with
  | normal => exact ⟨.normal, a₁, w₁, hq, StepsIn.trans harr (.one (fenced_calm hb hr rfl) stepR_inScope)⟩
  | exit id =>
    have hx : exitTo id (.inScope c :: k) = exitTo id k := by simp [exitTo]
    exact ⟨_, a₁, w₁, hq, fun k' hk => harr.1 k' (by rw [hx]; exact hk), fun hr' hk => harr.2 hr' (by rw [hx]; exact hk)⟩
  | goto l =>
    rcases hq with ⟨rest, hf, hq⟩ | ⟨hf, hq⟩
    · obtain ⟨e₂, a₂, w₂, hq₂, harr₂⟩ := hq b k cs hro hb hr
      exact ⟨e₂, a₂, w₂, hq₂, .of_steps (harr.1 _ (by simp [gotoIn, hf])) harr₂⟩
    · have hx : gotoIn l (.inScope c :: k) = gotoIn l k := by simp [gotoIn, hf]
      exact ⟨_, a₁, w₁, hq, fun k' hk => harr.1 k' (by rw [hx]; exact hk), fun hr' hk => harr.2 hr' (by rw [hx]; exact hk)⟩
  | ret => exact ⟨_, a₁, w₁, hq, harr⟩
  | panic ch => exact ⟨_, a₁, w₁, hq, harr⟩
  | outgrown => exact ⟨_, a₁, w₁, hq, harr⟩
theorem scope_ok {s : Sys} (hs : SysX P G s) {rd : Option Nat} {n : Nat} {c : Code} {ex : EX} {fs' : FS} {st' : St} : ∀ (k : Nat) {ρ : Env} {w : World} {body : Code} {fs : FS} {st : St} {a : Act}, scopeS s rd Y n c k (s.exec rd Y n body fs st) = some (ex, fs', st') →
    HR Y G B ρ st.h w → AR ρ n fs a → (∀ l, rd = some l → ρ.dom l) → ScopeW (FF (rd.map ρ.blk)) P c body (XPost Y G B ρ st w n ex fs' st') a w := by
  intro k
  induction k with
  | zero => intro ρ w body fs st a hr; simp [scopeS] at hr
  | succ k ih =>
    intro ρ w body fs st a hr h ha hrd
    refine scopeW_step ?_
    cases hx : s.exec rd Y n body fs st with
    | none => rw [hx] at hr; simp [scopeS] at hr
    | some r =>
      obtain ⟨ex1, fs1, st1⟩ := r
      rw [hx] at hr
      refine wpIn_mono (hs.exec hx h ha hrd).wp ?_
      intro e a1 w1 hq
      unfold scopeS at hr
      cases ex1 with
      | goto l =>
        obtain ⟨rfl, ρ1, k1, k2⟩ := hq
        simp only at hr
        split at hr
        · rename_i rest hf
          refine .inl ⟨rest, hf, ?_⟩
          have := ih hr k1.hr k2 (fun l e => k1.le.dom l (hrd l e))
          rw [FF_le hrd k1.le] at this
          intro b' k' cs' hro hb hrm
          obtain ⟨e, a', w', hq, harr⟩ := this b' k' cs' hro hb hrm
          exact ⟨e, a', w', hq.trans h k1, harr⟩
        · rename_i hf
          simp only [Option.some.injEq, Prod.mk.injEq] at hr
          obtain ⟨rfl, rfl, rfl⟩ := hr
          exact .inr ⟨hf, rfl, ρ1, k1, k2⟩
      | pan v =>
        simp only [Option.some.injEq, Prod.mk.injEq] at hr
        obtain ⟨rfl, rfl, rfl⟩ := hr
        obtain ⟨ρ1, u, rfl, h2⟩ := hq
        exact ⟨ρ1, u, rfl, h2⟩
      | _ =>
        simp only [Option.some.injEq, Prod.mk.injEq] at hr
        obtain ⟨rfl, rfl, rfl⟩ := hr
        obtain ⟨rfl, ρ1, k1, k2⟩ := hq
        exact ⟨rfl, ρ1, k1, k2⟩
theorem regS_q {ops : Array Oper} {ρ : Env} {st0 st st' : St} {w0 w : World} {n : Nat} {fs fs' : FS} {ex : EX} {re : RE} (hr : regS ops fs (some (re, st')) = some (ex, fs', st')) (hg : ∀ ρ' s' w', Step Y G B ρ st w ρ' s' w' → Step Y G B ρ st0 w0 ρ' s' w') :
    RQ Y G B n (eraseT ops.toList fs.tm) fs.mks ρ st w re st' (XPost Y G B ρ st0 w0 n ex fs' st') := by
  unfold regS at hr
  cases re with
  | go f =>
    simp only [Option.some.injEq, Prod.mk.injEq] at hr
    obtain ⟨rfl, rfl, _⟩ := hr
    exact fun ρ' a' w' h1 h2 => ⟨rfl, ρ', hg _ _ _ h1, h2⟩
  | pan v =>
    simp only [Option.some.injEq, Prod.mk.injEq] at hr
    obtain ⟨rfl, rfl, _⟩ := hr
    exact fun ρ' u a' w' h1 h2 h3 h4 => ⟨ρ', u, rfl, h2, hg _ _ _ h1, h3, h4⟩
theorem regS_inv {ops : Array Oper} {fs fs' : FS} {ex : EX} {st' : St} {r : Option (RE × St)} (hr : regS ops fs r = some (ex, fs', st')) : ∃ re, r = some (re, st') := by
  unfold regS at hr
  split at hr
  · simp only [Option.some.injEq, Prod.mk.injEq] at hr; obtain ⟨_, _, rfl⟩ := hr; exact ⟨_, rfl⟩
  · simp only [Option.some.injEq, Prod.mk.injEq] at hr; obtain ⟨_, _, rfl⟩ := hr; exact ⟨_, rfl⟩
  · cases hr
theorem dferA_ok {ρ : Env} {n : Nat} {tm : Tr AV} {a : Act} {o : Oper} {x : DF} (h : TR ρ n tm a.tmps) (hr : dferA (evA tm) o = some x) : ∃ d, DfR ρ x d ∧ ∀ w, (execOp a.eval o).run P w = .ok (.defer d) w := by
  unfold dferA at hr
  split at hr
  case h_2 => cases hr
  rename_i c ho
  split at hr
  case h_2 => cases hr
  rename_i f hc
  split at hr
  case h_2 => cases hr
  rename_i g xa ca xs hf hxs
  split at hr
  case h_2 => cases hr
  rename_i as has
  simp only [Option.some.injEq] at hr; subst hr
  have hv := evA_ok h f _ hf
  simp only [VR] at hv
  obtain ⟨us, cs, h1, h2, hv⟩ := hv
  have h3 := evs_FR (evA_ok h) hxs
  refine ⟨{ target := .fn (.func g) cs.toArray, args := us.toArray ++ c.args.map a.eval }, ⟨cs, us ++ c.args.toList.map a.eval, h2, ((LR.fr has h1).append h3).lr, ?_⟩, fun w => ?_⟩
  · congr 1
    apply Array.ext'
    simp
  · simp [execOp, ho, resolve, hc, hv, Deferred.ofValue]
theorem opsD_sound {s : Sys} (hs : SysOk P G s) {n : Nat} {ops : Array Oper} {Q : Exit → Act → World → Prop} :
    ∀ (l : List Oper) {ρ : Env} {w : World} {fs fs' : FS} {st st' : St} {a : Act}, HR Y G B ρ st.h w → AR ρ n fs a →
      opsD P G s Y n ops l fs st = some (fs', st') → (∀ ρ' a' w', Step Y G B ρ st w ρ' st' w' → AR ρ' n fs' a' → Q .normal a' w') → wpListIn (FF none) 0 P ops Q l a w := by
  intro l
  induction l with
  | nil =>
    intro ρ w fs fs' st st' a h ha hr hQ
    simp only [opsD, Option.some.injEq, Prod.mk.injEq] at hr
    obtain ⟨rfl, rfl⟩ := hr
    exact hQ ρ a w (Step.refl h) ha
  | cons o t ih =>
    intro ρ w fs fs' st st' a h ha hr hQ
    simp only [opsD] at hr
    unfold wpListIn
    cases hd : isDfer o with
    | true =>
      rw [hd] at hr
      simp only [cond_true] at hr
      split at hr
      case h_2 => cases hr
      rename_i x tm hw hx htm
      rw [wantA_ok ha.tr hw]
      simp only [if_true]
      obtain ⟨d, h1, h2⟩ := dferA_ok (P := P) ha.tr hx
      unfold Oper.wpIn
      refine ⟨fun _ _ => trivial, ?_⟩
      rw [show (FF none).round = none from rfl, Oper.semAt_none, h2 w]
      have hA : AR ρ n ⟨tm, x :: fs.mks⟩ ({ a with defers := d :: a.defers }.put o.dst undef) := by
        have := (putA_ok (a := { a with defers := d :: a.defers }) ha.tr htm und_ok)
        exact ⟨this.1, by rw [this.2]; exact ⟨d, _, h1, ha.df, rfl⟩⟩
      exact ih h hA hr hQ
    | false =>
      rw [hd] at hr
      simp only [cond_false] at hr
      split at hr
      · rename_i fs1 st1 h1
        refine opA_sound hs (ro := none) (fun c e => ?_) h ha h1 ?_ (fun v ρ' u w' q => by cases q)
        · unfold isDfer at hd; rw [e] at hd; cases hd
        · intro fs' ρ1 u w1 q hst hA hmk
          cases q
          exact ih hst.hr hA hr (fun ρ2 a2 w2 h2 hA2 => hQ ρ2 a2 w2 (hst.trans h h2) hA2)
      · cases hr
theorem region_wp {s : Sys} (hs : SysX P G s) (hm : P.follows .mixedOrders = true) {ρ : Env} {w : World} {rd : Option Nat} {n id : Nat} {ops : Array Oper} {draw : Bool} {fs fs' : FS} {st st' : St} {ex : EX} {a : Act}
    (hr : (bif noDefer ops then (bif draw then (bif Region.noSelect ops then drawS P G s Y n ops fs st else none) else regS ops fs (opsA P G s Y n ops ops.toList fs st)) else dfrS P G s rd Y n ops draw fs st) = some (ex, fs', st')) (h : HR Y G B ρ st.h w) (ha : AR ρ n fs a) :
    (Code.region id ops draw).wpIn (FF (rd.map ρ.blk)) 0 P (XPost Y G B ρ st w n ex fs' st') a w := by
  have hE := ha.tr.erase ops.toList
  have hEd : ∀ o ∈ ops.toList, ∀ d, o.dst = some d → (eraseT ops.toList fs.tm).get d = none := fun o ho d hd => erase_dst _ ho hd
  cases hd : noDefer ops with
  | false =>
    rw [hd] at hr
    simp only [cond_false] at hr
    unfold dfrS at hr
    split at hr
    case h_2 => cases hr
    cases draw with
    | true => cases hr
    | false =>
    simp only [cond_false] at hr
    split at hr
    case h_2 => cases hr
    rename_i fs1 st1 h1
    simp only [Option.some.injEq, Prod.mk.injEq] at hr
    obtain ⟨rfl, rfl, rfl⟩ := hr
    exact wpIn_region_list (opsD_sound hs.toSysOk ops.toList h ha h1 (fun ρ' a' w' g1 g2 => ⟨rfl, ρ', g1, g2⟩))
  | true =>
  rw [hd] at hr
  simp only [cond_true] at hr
  cases draw with
  | false =>
    simp only [cond_false] at hr
    obtain ⟨re, h1⟩ := regS_inv hr
    rw [h1] at hr
    refine wpIn_region_list (opsA_sound hs.toSysOk ops.toList (fun o ho c e => ?_) hEd h ha hE h1 (regS_q hr fun _ _ _ g => g))
    have := List.all_eq_true.1 hd o ho
    simp [e] at this
  | true =>
    simp only [cond_true] at hr
    cases hsel : Region.noSelect ops with
    | false => rw [hsel] at hr; cases hr
    | true =>
    rw [hsel] at hr
    simp only [cond_true] at hr
    unfold drawS at hr
    split at hr
    · rename_i plan hp
      obtain ⟨re, h1⟩ := regS_inv hr
      rw [h1] at hr
      have hdr : HR Y G B ρ st.h w.drew := h.heap rfl
      have hEd' : ∀ (i : Nat) o, ops[i]? = some o → ∀ d, o.dst = some d → (eraseT ops.toList fs.tm).get d = none := fun i o ho => hEd o (by simpa using Array.mem_of_getElem? ho)
      refine wpIn_region_any hm (anyIn_of_held (eff := effK ops) (T := TL w.drew []) _ _ _ _ ?_)
      refine (plan_sound hs.toSysOk (ro := rd.map ρ.blk) (Q := XPost Y G B ρ st w n ex fs' st') (E := eraseT ops.toList fs.tm) hd hsel hEd' ?_ plan (st := ⟨st.h, st.next + ops.size, st.wc⟩) (Lc := []) (L := []) (w := w.drew) (Closed.nil _) hdr ha hE (fun k g hk => by cases hk) (fun k g hk => by cases hk) h1
          (regS_q hr fun ρ' s' w' g => (Step.drew h).trans h g.nextNo)).1 (planA_ok hp)
      intro i o ho v c a1 w1 hq
      cases re with
      | go f =>
        simp only [regS, Option.some.injEq, Prod.mk.injEq] at hr
        obtain ⟨rfl, rfl, _⟩ := hr
        cases hq.1
      | pan x =>
        simp only [regS, Option.some.injEq, Prod.mk.injEq] at hr
        obtain ⟨rfl, rfl, _⟩ := hr
        obtain ⟨ρ', u, q1, q2, q3, q4, q5⟩ := hq
        refine ⟨ρ', u, q1, q2, q3, (PTR.put _ _ (hEd' i o ho)).1 q4, ?_⟩
        cases hdst : o.dst with
        | none => rw [hdst] at q5; exact q5
        | some d => rw [hdst] at q5; exact q5
    · cases hr
end
end Go.Ev
