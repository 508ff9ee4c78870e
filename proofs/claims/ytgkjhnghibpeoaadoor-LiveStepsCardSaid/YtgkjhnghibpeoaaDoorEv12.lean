/- The machine goes through regions so. -/
import Derived.Test.YtgkjhnghibpeoaaDoorEv11
import Derived.RecoverIn
namespace Go.Ev
noncomputable section
open Go Go.RowKit
variable {Y : Nat → Option LoopRec} {G : Nat → Nat → Option AV} {B : Nat} {ρ : Env} {w : World} {P : Program}

/-- A deferred call. -/
def DfR (ρ : Env) : DF → Deferred → Prop
  | .mk b, d => ρ.dom b ∧ d = { target := .collected (ρ.blk b), args := #[] }
  | .fn g c a, d => ∃ cs as, LR ρ c cs ∧ LR ρ a as ∧ d = { target := .fn (.func g) cs.toArray, args := as.toArray }
def DsR (ρ : Env) : List DF → List Deferred → Prop
  | [], l => l = []
  | x :: t, l => ∃ d l', DfR ρ x d ∧ DsR ρ t l' ∧ l = d :: l'
theorem DfR.mono {ρ' : Env} (hl : ρ.Le ρ') : ∀ {x : DF} {d : Deferred}, DfR ρ x d → DfR ρ' x d := by
  intro x d h
  cases x with
  | mk b => obtain ⟨h1, rfl⟩ := h; exact ⟨hl.dom b h1, by rw [hl.blk b h1]⟩
  | fn g c a => obtain ⟨cs, as, h1, h2, rfl⟩ := h; exact ⟨cs, as, h1.mono hl, h2.mono hl, rfl⟩
theorem DsR.mono {ρ' : Env} (hl : ρ.Le ρ') : ∀ {x : List DF} {d : List Deferred}, DsR ρ x d → DsR ρ' x d := by
  intro x
  induction x with
  | nil => intro d h; exact h
  | cons y t ih => rintro d ⟨e, l', h1, h2, rfl⟩; exact ⟨e, l', h1.mono hl, ih h2, rfl⟩
structure AR (ρ : Env) (n : Nat) (fs : FS) (a : Act) : Prop where
  tr : TR ρ n fs.tm a.tmps
  df : DsR ρ fs.mks a.defers
theorem AR.mono {ρ' : Env} {n : Nat} {fs : FS} {a : Act} (h : AR ρ n fs a) (hl : ρ.Le ρ') : AR ρ' n fs a := ⟨h.tr.mono hl, h.df.mono hl⟩
/-- What is sure of the slots. -/
def PTR (ρ : Env) (tm : Tr AV) (tmps : Array Value) : Prop := ∀ t a, tm.get t = some a → VR ρ a (tmps.getD t undef)
theorem PTR.mono {ρ' : Env} {tm : Tr AV} {tmps : Array Value} (h : PTR ρ tm tmps) (hl : ρ.Le ρ') : PTR ρ' tm tmps := fun t a ha => (h t a ha).mono hl
theorem TR.erase {n : Nat} {tm : Tr AV} {tmps : Array Value} (h : TR ρ n tm tmps) (l : List Oper) : PTR ρ (eraseT l tm) tmps := fun t a ha => by
  have := h.get t
  rw [show tmGet tm t = a by simp only [tmGet, erase_sub l ha, Option.getD_some]] at this
  exact this
theorem PTR.put {tm : Tr AV} {a : Act} (dst : Option Tmp) (v : Value) (hd : ∀ d, dst = some d → tm.get d = none) : PTR ρ tm (a.put dst v).tmps ↔ PTR ρ tm a.tmps := by
  cases dst with
  | none => exact Iff.rfl
  | some d =>
    have hd := hd d rfl
    have key : ∀ t x, tm.get t = some x → (a.put (some d) v).tmps.getD t undef = a.tmps.getD t undef := fun t x hx => by
      have : d ≠ t := by rintro rfl; rw [hd] at hx; cases hx
      simp [Act.put, Array.getElem?_setIfInBounds_ne this]
    exact ⟨fun h t x hx => by rw [← key t x hx]; exact h t x hx, fun h t x hx => by rw [key t x hx]; exact h t x hx⟩
theorem evA_ok {n : Nat} {tm : Tr AV} {a : Act} (h : TR ρ n tm a.tmps) : EvOk ρ (evA tm) a.eval := by
  intro x v hx
  cases x with
  | tmp t => simp only [evA, Option.some.injEq] at hx; subst hx; exact h.get t
  | const c => exact ofVal_VR hx
  | global g => simp only [evA, Option.some.injEq] at hx; subst hx; simp only [VR]; rfl
  | func f => simp only [evA, Option.some.injEq] at hx; subst hx; simp only [VR]; exact ⟨[], [], rfl, rfl, rfl⟩
theorem putA_ok {n : Nat} {tm tm' : Tr AV} {a : Act} {dst : Option Tmp} {v : AV} {u : Value} (h : TR ρ n tm a.tmps) (hp : putA n tm dst v = some tm') (hv : VR ρ v u) : TR ρ n tm' (a.put dst u).tmps ∧ (a.put dst u).defers = a.defers := by
  unfold putA at hp
  cases dst with
  | none => simp only [Option.some.injEq] at hp; subst hp; exact ⟨h, rfl⟩
  | some d =>
    simp only [ble_dec, Bool.cond_decide] at hp
    split at hp
    case isFalse => cases hp
    rename_i hd
    simp only [Option.some.injEq] at hp; subst hp
    refine ⟨⟨by simp [Act.put, h.size], fun t => ?_, fun t ht => ?_⟩, rfl⟩
    · simp only [tmGet, Tr.get_set, Act.put]
      by_cases e : t = d
      · subst e
        have hlt : t < a.tmps.size := by rw [h.size]; omega
        simp [hlt]
        exact hv
      · rw [if_neg e]
        have e' : d ≠ t := fun q => e q.symm
        have := h.get t
        simp only [tmGet] at this
        simpa [Array.getElem?_setIfInBounds_ne e'] using this
    · rw [Tr.get_set, if_neg (by omega)]
      exact h.out t ht
theorem AR.put {n : Nat} {fs : FS} {tm' : Tr AV} {a : Act} {dst : Option Tmp} {v : AV} {u : Value} (h : AR ρ n fs a) (hp : putA n fs.tm dst v = some tm') (hv : VR ρ v u) : AR ρ n ⟨tm', fs.mks⟩ (a.put dst u) := by
  obtain ⟨h1, h2⟩ := putA_ok h.tr hp hv
  exact ⟨h1, by rw [h2]; exact h.df⟩
theorem und_ok : VR ρ undA undef := by simp only [undA, VR, LR]; exact ⟨[], rfl, rfl⟩
theorem wantA_ok {n : Nat} {ops : Array Oper} {tm : Tr AV} {a : Act} {o : Oper} {b : Bool} (h : TR ρ n tm a.tmps) (hw : wantA ops tm o = some b) : Region.wanted o (yielded ops a.tmps) = b := by
  unfold wantA at hw
  unfold Region.wanted
  split at hw
  · rename_i hg; rw [hg]; simp only [Option.some.injEq] at hw; exact hw
  · rename_i j want hg
    rw [hg]
    simp only [yielded]
    split at hw
    · rename_i hq
      rw [hq]
      simp only [Option.some.injEq] at hw; subst hw
      simp
    · rename_i t hq
      rw [hq]
      simp only [Option.bind_some]
      have hget := h.get t
      cases ht : a.tmps[t]? with
      | none =>
        have he : a.tmps.getD t undef = undef := by simp [ht]
        rw [he] at hget
        have hge : n ≤ t := by rw [← h.size]; simpa using ht
        simp only [tmGet, h.out t hge, Option.getD_none, Option.some.injEq] at hw
        subst hw
        simp
      | some u =>
        have he : a.tmps.getD t undef = u := by simp [ht]
        rw [he] at hget
        split at hw
        · rename_i b' hb'
          rw [hb'] at hget
          simp only [VR] at hget
          subst hget
          simp only [Option.some.injEq] at hw; subst hw
          cases b' <;> cases want <;> rfl
        · cases hw
        · rename_i h1 h2
          simp only [Option.some.injEq] at hw; subst hw
          have : ∀ q, u ≠ .bool q := by
            rintro q rfl
            cases hx : tmGet tm t <;> rw [hx] at hget <;> simp only [VR, reduceCtorEq, and_false, exists_false, Value.bool.injEq] at hget
            · exact h1 _ hx
            all_goals first
              | exact h2 _ hx
              | (obtain ⟨_, _, _, _, h⟩ := hget; exact absurd h (by simp))
              | (obtain ⟨_, _, h⟩ := hget; exact absurd h (by simp))
          cases u <;> first
            | exact absurd rfl (this _)
            | simp

def FF (ro : Option Nat) : Fence := { fn := fun _ => True, depth := none, alive := false, round := ro }
theorem FF_none : FF none = Fence.wide := rfl
theorem FF_some (l : Nat) : FF (some l) = Fence.wide.inRound l := rfl
/-- How a call ends. -/
def CRR (ρ : Env) : CR → Ending → Prop
  | .ret v, e => ∃ u, e = .returned u ∧ VR ρ v u
  | .pan v, e => ∃ u, e = .panicked [{ v := u, recovered := false }] ∧ VR ρ v u
def CPost (Y : Nat → Option LoopRec) (G : Nat → Nat → Option AV) (B : Nat) (ρ : Env) (st : St) (w : World) (v : CR) (st' : St) (e : Ending) (w' : World) : Prop := ∃ ρ', CRR ρ' v e ∧ Step Y G B ρ st w ρ' st' w'
/-- How a frame leaves. -/
def MR (ρ : Env) : MD → FrameMode → Prop
  | none, m => m = .returning
  | some (v, b), m => ∃ u, VR ρ v u ∧ m = .panicking [{ v := u, recovered := b }]
theorem MR.mono {ρ' : Env} (hl : ρ.Le ρ') : ∀ {m : MD} {u : FrameMode}, MR ρ m u → MR ρ' m u := by
  intro m u h
  cases m with
  | none => exact h
  | some x => obtain ⟨v, b⟩ := x; obtain ⟨u', h1, h2⟩ := h; exact ⟨u', h1.mono hl, h2⟩
def DPost (Y : Nat → Option LoopRec) (G : Nat → Nat → Option AV) (B : Nat) (ρ : Env) (st : St) (w : World) (m' : MD) (st' : St) (e : Ending) (u : FrameMode) (w' : World) : Prop :=
  ∃ ρ' v, e = .returned v ∧ MR ρ' m' u ∧ Step Y G B ρ st w ρ' st' w'
def foldT (ps : List Tmp) (vs : List Value) (tmps : Array Value) : Array Value := (ps.zip vs).foldl (fun (ts : Array Value) (x : Tmp × Value) => ts.setIfInBounds x.1 x.2) tmps
structure SysOk (P : Program) (G : Nat → Nat → Option AV) (s : Sys) : Prop where
  call : ∀ {Y B ρ w f} {as : List AV} {st v st' vs}, s.call Y f as st = some (v, st') → HR Y G B ρ st.h w → FR ρ as vs → CallsIn Fence.wide 0 P f vs.toArray w (CPost Y G B ρ st w v st')
  dcall : ∀ {Y B ρ w f} {as : List AV} {m st m' st' vs u}, s.dcall Y f as m st = some (m', st') → HR Y G B ρ st.h w → FR ρ as vs → MR ρ m u → CallsDIn Fence.wide 0 P f vs.toArray u w (DPost Y G B ρ st w m' st')
  round : ∀ {Y B ρ w l} {as : List AV} {st v st' y fn tmps vs}, s.round Y l as st = some (v, st') → HR Y G B ρ st.h w → Y l = some y → TR ρ y.n y.tm tmps → FR ρ as vs → ρ.dom l →
    RoundIn Fence.wide 0 P (ρ.blk l) fn (foldT y.params vs tmps) y.assign y.body w (CPost Y G B ρ st w (.ret v) st')
theorem panA_ok {n : Nat} {tm : Tr AV} {a : Act} {o : Oper} {v : AV} (h : TR ρ n tm a.tmps) (hp : panA (evA tm) o = some v) : ∃ u, VR ρ v u ∧ (execOp a.eval o).run P w = .halt (.panic u) w := by
  unfold panA at hp
  split at hp
  case h_2 => cases hp
  rename_i x ho
  split at hp
  case h_2 => cases hp
  rename_i t y hx
  simp only [Option.some.injEq] at hp; subst hp
  have hv := evA_ok h x _ hx
  refine ⟨a.eval x, hv, ?_⟩
  simp only [VR] at hv
  obtain ⟨u, _, hu⟩ := hv
  simp [execOp, ho, hu, Instr.panic]
theorem goP_ok {n : Nat} {fs : FS} {a : Act} {dst : Option Tmp} {v : AV} {u : Value} {st st' : St} {r : RE} (h : AR ρ n fs a) (hv : VR ρ v u) (hr : goP n fs dst v st = some (r, st')) :
    ∃ fs', r = .go fs' ∧ st' = st ∧ AR ρ n fs' (a.put dst u) ∧ fs'.mks = fs.mks := by
  unfold goP at hr
  split at hr
  case h_2 => cases hr
  rename_i tm htm
  simp only [Option.some.injEq, Prod.mk.injEq] at hr
  obtain ⟨rfl, rfl⟩ := hr
  exact ⟨_, rfl, rfl, h.put htm hv, rfl⟩
theorem opA_sound {s : Sys} (hs : SysOk P G s) {ro : Option Nat} {n : Nat} {ops : Array Oper} {id : Nat} {o : Oper} {fs : FS} {re : RE} {st st' : St} {a : Act} {K : Act → World → Prop} {Q : Exit → Act → World → Prop}
    (hd : ∀ c, o.op ≠ .defer c) (h : HR Y G B ρ st.h w) (ha : AR ρ n fs a) (hr : opA P G s Y n ops id o fs st = some (re, st'))
    (hK : ∀ fs' ρ' u w', re = .go fs' → Step Y G B ρ st w ρ' st' w' → AR ρ' n fs' (a.put o.dst u) → fs'.mks = fs.mks → K (a.put o.dst u) w')
    (hP : ∀ v ρ' u w', re = .pan v → Step Y G B ρ st w ρ' st' w' → VR ρ' v u → Q (.panic [{ v := u, recovered := false }]) a w') :
    if Region.wanted o (yielded ops a.tmps) = true then o.wpIn (FF ro) 0 P a w K Q else (∀ f, o.about P w a.eval = some f → (FF ro).fn f) ∧ K (a.put o.dst undef) w := by
  unfold opA at hr
  split at hr
  · cases hr
  · rename_i hw
    rw [wantA_ok ha.tr hw]
    simp only [Bool.false_eq_true, if_false]
    obtain ⟨fs', rfl, rfl, g1, g2⟩ := goP_ok ha und_ok hr
    exact ⟨fun _ _ => trivial, hK fs' ρ _ w rfl (Step.refl h) g1 g2⟩
  · rename_i hw
    rw [wantA_ok ha.tr hw]
    simp only [if_true]
    unfold Oper.wpIn
    refine ⟨fun _ _ => trivial, ?_⟩
    rw [Oper.semAt_eq _ _ _ hd]
    split at hr
    · rename_i v hv
      simp only [Option.some.injEq, Prod.mk.injEq] at hr
      obtain ⟨rfl, rfl⟩ := hr
      obtain ⟨u, h1, h2⟩ := panA_ok (P := P) (w := w) ha.tr hv
      rw [h2]
      exact hP v ρ u w rfl (Step.refl h) h1
    have key : ∀ {nx st1}, wopA P Y G (evA fs.tm) st id o = some (nx, st1) → ∃ ρ' w' n', (execOp a.eval o).run P w = .ok n' w' ∧ NR Y ρ' nx n' ∧ Step Y G B ρ st w ρ' st1 w' :=
      fun hx => wopA_run h (evA_ok ha.tr) hx
    unfold wopR at hr
    split at hr
    · cases hr
    · rename_i v st1 hx
      obtain ⟨ρ', w', n', h1, ⟨u, rfl, hu⟩, h3⟩ := key hx
      rw [h1]
      obtain ⟨fs', rfl, rfl, g1, g2⟩ := goP_ok (ha.mono h3.le) hu hr
      exact hK fs' ρ' _ w' rfl h3 g1 g2
    · rename_i st1 hx
      obtain ⟨ρ', w', n', h1, rfl, h3⟩ := key hx
      rw [h1]
      obtain ⟨fs', rfl, rfl, g1, g2⟩ := goP_ok (ha.mono h3.le) und_ok hr
      exact hK fs' ρ' _ w' rfl h3 g1 g2
    · rename_i f as st1 hx
      obtain ⟨ρ', w', n', h1, ⟨vs, rfl, hvs⟩, h3⟩ := key hx
      rw [h1]
      split at hr
      · rename_i v st2 hc
        refine ⟨fun q => (by cases q), ?_⟩
        refine CallsIn.mono (hs.call hc h3.hr hvs) ?_
        rintro e w2 ⟨ρ2, ⟨u, rfl, hu⟩, h4⟩
        obtain ⟨fs', rfl, rfl, g1, g2⟩ := goP_ok (ha.mono (h3.le.trans h4.le)) hu hr
        exact hK fs' ρ2 _ w2 rfl (h3.trans h h4) g1 g2
      · rename_i v st2 hc
        simp only [Option.some.injEq, Prod.mk.injEq] at hr
        obtain ⟨rfl, rfl⟩ := hr
        refine ⟨fun q => (by cases q), ?_⟩
        refine CallsIn.mono (hs.call hc h3.hr hvs) ?_
        rintro e w2 ⟨ρ2, ⟨u, rfl, hu⟩, h4⟩
        exact hP v ρ2 u w2 rfl (h3.trans h h4) hu
      · cases hr
    · rename_i l as st1 hx
      obtain ⟨ρ', w', n', h1, ⟨y, fn, tmps, vs, hy, hdl, htr, hvs, rfl⟩, h3⟩ := key hx
      rw [h1]
      split at hr
      · rename_i v st2 hc
        refine ⟨fun q => (by cases q), ?_⟩
        refine RoundIn.mono (hs.round hc h3.hr hy htr hvs hdl) ?_
        rintro e w2 ⟨ρ2, ⟨u, rfl, hu⟩, h4⟩
        obtain ⟨fs', rfl, rfl, g1, g2⟩ := goP_ok (ha.mono (h3.le.trans h4.le)) hu hr
        exact hK fs' ρ2 _ w2 rfl (h3.trans h h4) g1 g2
      · cases hr
end
end Go.Ev
