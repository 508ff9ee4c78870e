/- The machine goes through regions so. -/
import Derived.Test.YtijciojipcgiaaaEv11
import Derived.RecoverIn
import Derived.TacticsIn
namespace Go.Ev
noncomputable section
open Go Go.RowKit
variable {Y : Nat → Option LoopRec} {G : Nat → Nat → Option AV} {B : Nat} {ρ : Env} {w : World} {P : Program}

/-- A deferred call. -/
def DfR (ρ : Env) : DF → Deferred → Prop
  | .mk b, d => ρ.dom b ∧ d = { target := .collected (ρ.blk b), args := #[] }
  | .fn g c a, d => ∃ cs as, LR ρ c cs ∧ LR ρ a as ∧ d = { target := .fn (.func g) cs.toArray, args := as.toArray }
def DsR (ρ : Env) : List DF → List Deferred → Prop
  | [], l => l = []
  | x :: t, l => ∃ d l', DfR ρ x d ∧ DsR ρ t l' ∧ l = d :: l'
theorem DfR.mono {ρ' : Env} (hl : ρ.Le ρ') : ∀ {x : DF} {d : Deferred}, DfR ρ x d → DfR ρ' x d := by
  intro x d h
  cases x with
  | mk b => obtain ⟨h1, rfl⟩ := h; exact ⟨hl.dom b h1, by rw [hl.blk b h1]⟩
  | fn g c a => obtain ⟨cs, as, h1, h2, rfl⟩ := h; exact ⟨cs, as, h1.mono hl, h2.mono hl, rfl⟩
theorem DsR.mono {ρ' : Env} (hl : ρ.Le ρ') : ∀ {x : List DF} {d : List Deferred}, DsR ρ x d → DsR ρ' x d := by
  intro x
  induction x with
  | nil => intro d h; exact h
  | cons y t ih => rintro d ⟨e, l', h1, h2, rfl⟩; exact ⟨e, l', h1.mono hl, ih h2, rfl⟩
structure AR (ρ : Env) (n : Nat) (fs : FS) (a : Act) : Prop where
  tr : TR ρ n fs.tm a.tmps
  df : DsR ρ fs.mks a.defers
theorem AR.mono {ρ' : Env} {n : Nat} {fs : FS} {a : Act} (h : AR ρ n fs a) (hl : ρ.Le ρ') : AR ρ' n fs a := ⟨h.tr.mono hl, h.df.mono hl⟩
/-- What is sure of the slots. -/
def PTR (ρ : Env) (tm : Tr AV) (tmps : Array Value) : Prop := ∀ t a, tm.get t = some a → VR ρ a (tmps.getD t undef)
theorem PTR.mono {ρ' : Env} {tm : Tr AV} {tmps : Array Value} (h : PTR ρ tm tmps) (hl : ρ.Le ρ') : PTR ρ' tm tmps := fun t a ha => (h t a ha).mono hl
theorem TR.erase {n : Nat} {tm : Tr AV} {tmps : Array Value} (h : TR ρ n tm tmps) (l : List Oper) : PTR ρ (eraseT l tm) tmps := fun t a ha => by
  have := h.get t
  rw [show tmGet tm t = a by simp only [tmGet, erase_sub l ha, Option.getD_some]] at this
  exact this
theorem PTR.put {tm : Tr AV} {a : Act} (dst : Option Tmp) (v : Value) (hd : ∀ d, dst = some d → tm.get d = none) : PTR ρ tm (a.put dst v).tmps ↔ PTR ρ tm a.tmps := by
  cases dst with
  | none => exact Iff.rfl
  | some d =>
    have hd := hd d rfl
    have key : ∀ t x, tm.get t = some x → (a.put (some d) v).tmps.getD t undef = a.tmps.getD t undef := fun t x hx => by
      have : d ≠ t := by rintro rfl; rw [hd] at hx; cases hx
      simp [Act.put, Array.getElem?_setIfInBounds_ne this]
    exact ⟨fun h t x hx => by rw [← key t x hx]; exact h t x hx, fun h t x hx => by rw [key t x hx]; exact h t x hx⟩
theorem evA_ok {n : Nat} {tm : Tr AV} {a : Act} (h : TR ρ n tm a.tmps) : EvOk ρ (evA tm) a.eval := by
  intro x v hx
  cases x with
  | tmp t => simp only [evA, Option.some.injEq] at hx; subst hx; exact h.get t
  | const c => exact ofVal_VR hx
  | global g => simp only [evA, Option.some.injEq] at hx; subst hx; simp only [VR]; rfl
  | func f => simp only [evA, Option.some.injEq] at hx; subst hx; simp only [VR]; exact ⟨[], [], rfl, rfl, rfl⟩
theorem putA_ok {n : Nat} {tm tm' : Tr AV} {a : Act} {dst : Option Tmp} {v : AV} {u : Value} (h : TR ρ n tm a.tmps) (hp : putA n tm dst v = some tm') (hv : VR ρ v u) : TR ρ n tm' (a.put dst u).tmps ∧ (a.put dst u).defers = a.defers := by
  unfold putA at hp
  cases dst with
  | none => simp only [Option.some.injEq] at hp; subst hp; exact ⟨h, rfl⟩
  | some d =>
    simp only [ble_dec, Bool.cond_decide] at hp
    split at hp
    case isFalse => cases hp
    rename_i hd
    simp only [Option.some.injEq] at hp; subst hp
    refine ⟨⟨by simp [Act.put, h.size], fun t => ?_, fun t ht => ?_⟩, rfl⟩
    · simp only [tmGet, Tr.get_set, Act.put]
      by_cases e : t = d
      · subst e
        have hlt : t < a.tmps.size := by rw [h.size]; omega
        simp [hlt]
        exact hv
      · rw [if_neg e]
        have e' : d ≠ t := fun q => e q.symm
        have := h.get t
        simp only [tmGet] at this
        simpa [Array.getElem?_setIfInBounds_ne e'] using this
    · rw [Tr.get_set, if_neg (by omega)]
      exact h.out t ht
theorem AR.put {n : Nat} {fs : FS} {tm' : Tr AV} {a : Act} {dst : Option Tmp} {v : AV} {u : Value} (h : AR ρ n fs a) (hp : putA n fs.tm dst v = some tm') (hv : VR ρ v u) : AR ρ n ⟨tm', fs.mks⟩ (a.put dst u) := by
  obtain ⟨h1, h2⟩ := putA_ok h.tr hp hv
  exact ⟨h1, by rw [h2]; exact h.df⟩
theorem und_ok : VR ρ undA undef := by simp only [undA, VR, LR]; exact ⟨[], rfl, rfl⟩
theorem wantA_ok {n : Nat} {ops : Array Oper} {tm : Tr AV} {a : Act} {o : Oper} {b : Bool} (h : TR ρ n tm a.tmps) (hw : wantA ops tm o = some b) : Region.wanted o (yielded ops a.tmps) = b := by
  unfold wantA at hw
  unfold Region.wanted
  split at hw
  · rename_i hg; rw [hg]; simp only [Option.some.injEq] at hw; exact hw
  · rename_i j want hg
    rw [hg]
    simp only [yielded]
    split at hw
    · rename_i hq
      rw [hq]
      simp only [Option.some.injEq] at hw; subst hw
      simp
    · rename_i t hq
      rw [hq]
      simp only [Option.bind_some]
      have hget := h.get t
      cases ht : a.tmps[t]? with
      | none =>
        have he : a.tmps.getD t undef = undef := by simp [ht]
        rw [he] at hget
        have hge : n ≤ t := by rw [← h.size]; simpa using ht
        simp only [tmGet, h.out t hge, Option.getD_none, Option.some.injEq] at hw
        subst hw
        simp
      | some u =>
        have he : a.tmps.getD t undef = u := by simp [ht]
        rw [he] at hget
        split at hw
        · rename_i b' hb'
          rw [hb'] at hget
          simp only [VR] at hget
          subst hget
          simp only [Option.some.injEq] at hw; subst hw
          cases b' <;> cases want <;> rfl
        · cases hw
        · rename_i h1 h2
          simp only [Option.some.injEq] at hw; subst hw
          have : ∀ q, u ≠ .bool q := by
            rintro q rfl
            cases hx : tmGet tm t <;> rw [hx] at hget <;> simp only [VR, reduceCtorEq, and_false, exists_false, Value.bool.injEq] at hget
            · exact h1 _ hx
            all_goals first
              | exact h2 _ hx
              | (obtain ⟨_, _, _, _, h⟩ := hget; exact absurd h (by simp))
              | (obtain ⟨_, _, h⟩ := hget; exact absurd h (by simp))
          cases u <;> first
            | exact absurd rfl (this _)
            | simp

def FF (ro : Option Nat) : Fence := { fn := fun _ => True, depth := none, alive := false, round := ro }
theorem FF_none : FF none = Fence.wide := rfl
theorem FF_some (l : Nat) : FF (some l) = Fence.wide.inRound l := rfl
/-- How a call ends. -/
def CRR (ρ : Env) : CR → Ending → Prop
  | .ret v, e => ∃ u, e = .returned u ∧ VR ρ v u
  | .pan v, e => ∃ u, e = .panicked [{ v := u, recovered := false }] ∧ VR ρ v u
def CPost (Y : Nat → Option LoopRec) (G : Nat → Nat → Option AV) (B : Nat) (ρ : Env) (st : St) (w : World) (v : CR) (st' : St) (e : Ending) (w' : World) : Prop := ∃ ρ', CRR ρ' v e ∧ Step Y G B ρ st w ρ' st' w'
/-- How a frame leaves. -/
def MR (ρ : Env) : MD → FrameMode → Prop
  | none, m => m = .returning
  | some (v, b), m => ∃ u, VR ρ v u ∧ m = .panicking [{ v := u, recovered := b }]
theorem MR.mono {ρ' : Env} (hl : ρ.Le ρ') : ∀ {m : MD} {u : FrameMode}, MR ρ m u → MR ρ' m u := by
  intro m u h
  cases m with
  | none => exact h
  | some x => obtain ⟨v, b⟩ := x; obtain ⟨u', h1, h2⟩ := h; exact ⟨u', h1.mono hl, h2⟩
def DPost (Y : Nat → Option LoopRec) (G : Nat → Nat → Option AV) (B : Nat) (ρ : Env) (st : St) (w : World) (m' : MD) (st' : St) (e : Ending) (u : FrameMode) (w' : World) : Prop :=
  ∃ ρ' v, e = .returned v ∧ MR ρ' m' u ∧ Step Y G B ρ st w ρ' st' w'
def foldT (ps : List Tmp) (vs : List Value) (tmps : Array Value) : Array Value := (ps.zip vs).foldl (fun (ts : Array Value) (x : Tmp × Value) => ts.setIfInBounds x.1 x.2) tmps
structure SysOk (P : Program) (G : Nat → Nat → Option AV) (s : Sys) : Prop where
  call : ∀ {Y B ρ w f} {as : List AV} {st v st' vs}, s.call Y f as st = some (v, st') → HR Y G B ρ st.h w → FR ρ as vs → CallsIn Fence.wide 0 P f vs.toArray w (CPost Y G B ρ st w v st')
  dcall : ∀ {Y B ρ w f} {as : List AV} {m st m' st' vs u}, s.dcall Y f as m st = some (m', st') → HR Y G B ρ st.h w → FR ρ as vs → MR ρ m u → CallsDIn Fence.wide 0 P f vs.toArray u w (DPost Y G B ρ st w m' st')
  round : ∀ {Y B ρ w l} {as : List AV} {st v st' y fn tmps vs}, s.round Y l as st = some (v, st') → HR Y G B ρ st.h w → Y l = some y → TR ρ y.n y.tm tmps → FR ρ as vs → ρ.dom l →
    RoundIn Fence.wide 0 P (ρ.blk l) fn (foldT y.params vs tmps) y.assign y.body w (CPost Y G B ρ st w (.ret v) st')
theorem panA_ok {n : Nat} {tm : Tr AV} {a : Act} {o : Oper} {v : AV} (h : TR ρ n tm a.tmps) (hp : panA (evA tm) o = some v) : ∃ u, VR ρ v u ∧ (execOp a.eval o).run P w = .halt (.panic u) w := by
  unfold panA at hp
  split at hp
  case h_2 => cases hp
  rename_i x ho
  split at hp
  case h_2 => cases hp
  rename_i t y hx
  simp only [Option.some.injEq] at hp; subst hp
  have hv := evA_ok h x _ hx
  refine ⟨a.eval x, hv, ?_⟩
  simp only [VR] at hv
  obtain ⟨u, _, hu⟩ := hv
  simp [execOp, ho, hu, Instr.panic]
theorem goP_ok {n : Nat} {fs : FS} {a : Act} {dst : Option Tmp} {v : AV} {u : Value} {st st' : St} {r : RE} (h : AR ρ n fs a) (hv : VR ρ v u) (hr : goP n fs dst v st = some (r, st')) :
    ∃ fs', r = .go fs' ∧ st' = st ∧ AR ρ n fs' (a.put dst u) ∧ fs'.mks = fs.mks := by
  unfold goP at hr
  split at hr
  case h_2 => cases hr
  rename_i tm htm
  simp only [Option.some.injEq, Prod.mk.injEq] at hr
  obtain ⟨rfl, rfl⟩ := hr
  exact ⟨_, rfl, rfl, h.put htm hv, rfl⟩
theorem opA_sound {s : Sys} (hs : SysOk P G s) {ro : Option Nat} {n : Nat} {ops : Array Oper} {id : Nat} {o : Oper} {fs : FS} {re : RE} {st st' : St} {a : Act} {K : Act → World → Prop} {Q : Exit → Act → World → Prop}
    (hd : ∀ c, o.op ≠ .defer c) (h : HR Y G B ρ st.h w) (ha : AR ρ n fs a) (hr : opA P G s Y n ops id o fs st = some (re, st'))
    (hK : ∀ fs' ρ' u w', re = .go fs' → Step Y G B ρ st w ρ' st' w' → AR ρ' n fs' (a.put o.dst u) → fs'.mks = fs.mks → K (a.put o.dst u) w')
    (hP : ∀ v ρ' u w', re = .pan v → Step Y G B ρ st w ρ' st' w' → VR ρ' v u → Q (.panic [{ v := u, recovered := false }]) a w') :
    if Region.wanted o (yielded ops a.tmps) = true then o.wpIn (FF ro) 0 P a w K Q else (∀ f, o.about P w a.eval = some f → (FF ro).fn f) ∧ K (a.put o.dst undef) w := by
  unfold opA at hr
  split at hr
  · cases hr
  · rename_i hw
    rw [wantA_ok ha.tr hw]
    simp only [Bool.false_eq_true, if_false]
    obtain ⟨fs', rfl, rfl, g1, g2⟩ := goP_ok ha und_ok hr
    exact ⟨fun _ _ => trivial, hK fs' ρ _ w rfl (Step.refl h) g1 g2⟩
  · rename_i hw
    rw [wantA_ok ha.tr hw]
    simp only [if_true]
    unfold Oper.wpIn
    refine ⟨fun _ _ => trivial, ?_⟩
    rw [Oper.semAt_eq _ _ _ hd]
    split at hr
    · rename_i v hv
      simp only [Option.some.injEq, Prod.mk.injEq] at hr
      obtain ⟨rfl, rfl⟩ := hr
      obtain ⟨u, h1, h2⟩ := panA_ok (P := P) (w := w) ha.tr hv
      rw [h2]
      exact hP v ρ u w rfl (Step.refl h) h1
    have key : ∀ {nx st1}, wopA P Y G (evA fs.tm) st id o = some (nx, st1) → ∃ ρ' w' n', (execOp a.eval o).run P w = .ok n' w' ∧ NR Y ρ' nx n' ∧ Step Y G B ρ st w ρ' st1 w' :=
      fun hx => wopA_run h (evA_ok ha.tr) hx
    unfold wopR at hr
    split at hr
    · cases hr
    · rename_i v st1 hx
      obtain ⟨ρ', w', n', h1, ⟨u, rfl, hu⟩, h3⟩ := key hx
      rw [h1]
      obtain ⟨fs', rfl, rfl, g1, g2⟩ := goP_ok (ha.mono h3.le) hu hr
      exact hK fs' ρ' _ w' rfl h3 g1 g2
    · rename_i st1 hx
      obtain ⟨ρ', w', n', h1, rfl, h3⟩ := key hx
      rw [h1]
      obtain ⟨fs', rfl, rfl, g1, g2⟩ := goP_ok (ha.mono h3.le) und_ok hr
      exact hK fs' ρ' _ w' rfl h3 g1 g2
    · rename_i f as st1 hx
      obtain ⟨ρ', w', n', h1, ⟨vs, rfl, hvs⟩, h3⟩ := key hx
      rw [h1]
      split at hr
      · rename_i v st2 hc
        refine ⟨fun q => (by cases q), ?_⟩
        refine CallsIn.mono (hs.call hc h3.hr hvs) ?_
        rintro e w2 ⟨ρ2, ⟨u, rfl, hu⟩, h4⟩
        obtain ⟨fs', rfl, rfl, g1, g2⟩ := goP_ok (ha.mono (h3.le.trans h4.le)) hu hr
        exact hK fs' ρ2 _ w2 rfl (h3.trans h h4) g1 g2
      · rename_i v st2 hc
        simp only [Option.some.injEq, Prod.mk.injEq] at hr
        obtain ⟨rfl, rfl⟩ := hr
        refine ⟨fun q => (by cases q), ?_⟩
        refine CallsIn.mono (hs.call hc h3.hr hvs) ?_
        rintro e w2 ⟨ρ2, ⟨u, rfl, hu⟩, h4⟩
        exact hP v ρ2 u w2 rfl (h3.trans h h4) hu
      · cases hr
    · rename_i l as st1 hx
      obtain ⟨ρ', w', n', h1, ⟨y, fn, tmps, vs, hy, hdl, htr, hvs, rfl⟩, h3⟩ := key hx
      rw [h1]
      split at hr
      · rename_i v st2 hc
        refine ⟨fun q => (by cases q), ?_⟩
        refine RoundIn.mono (hs.round hc h3.hr hy htr hvs hdl) ?_
        rintro e w2 ⟨ρ2, ⟨u, rfl, hu⟩, h4⟩
        obtain ⟨fs', rfl, rfl, g1, g2⟩ := goP_ok (ha.mono (h3.le.trans h4.le)) hu hr
        exact hK fs' ρ2 _ w2 rfl (h3.trans h h4) g1 g2
      · cases hr
end
end Go.Ev
namespace Go.Ev
noncomputable section
open Go Go.RowKit
variable {Y : Nat → Option LoopRec} {G : Nat → Nat → Option AV} {B : Nat} {P : Program}

/-- What holds behind a region: how it ends; E: the slots of which it is sure wherever it stands. -/
def RQ (Y : Nat → Option LoopRec) (G : Nat → Nat → Option AV) (B : Nat) (n : Nat) (E : Tr AV) (mks : List DF) (ρ : Env) (st : St) (w : World) (re : RE) (st' : St) (Q : Exit → Act → World → Prop) : Prop :=
  match re with
  | .go fs' => ∀ ρ' a' w', Step Y G B ρ st w ρ' st' w' → AR ρ' n fs' a' → Q .normal a' w'
  | .pan v => ∀ ρ' u a' w', Step Y G B ρ st w ρ' st' w' → VR ρ' v u → PTR ρ' E a'.tmps → DsR ρ' mks a'.defers → Q (.panic [{ v := u, recovered := false }]) a' w'
theorem RQ.later {n : Nat} {E : Tr AV} {mks : List DF} {ρ ρ1 : Env} {st st1 st' : St} {w w1 : World} {re : RE} {Q : Exit → Act → World → Prop} (h : HR Y G B ρ st.h w) (hs : Step Y G B ρ st w ρ1 st1 w1) (hq : RQ Y G B n E mks ρ st w re st' Q) :
    RQ Y G B n E mks ρ1 st1 w1 re st' Q := by
  cases re with
  | go fs => exact fun ρ' a' w' h1 h2 => hq ρ' a' w' (hs.trans h h1) h2
  | pan v => exact fun ρ' u a' w' h1 h2 h3 h4 => hq ρ' u a' w' (hs.trans h h1) h2 h3 h4
theorem opsA_sound {s : Sys} (hs : SysOk P G s) {ro : Option Nat} {n : Nat} {ops : Array Oper} {Q : Exit → Act → World → Prop} {E : Tr AV} :
    ∀ (l : List Oper) {ρ : Env} {w : World} {fs : FS} {re : RE} {st st' : St} {a : Act}, (∀ o ∈ l, ∀ c, o.op ≠ .defer c) → (∀ o ∈ l, ∀ d, o.dst = some d → E.get d = none) → HR Y G B ρ st.h w → AR ρ n fs a → PTR ρ E a.tmps →
      opsA P G s Y n ops l fs st = some (re, st') → RQ Y G B n E fs.mks ρ st w re st' Q → wpListIn (FF ro) 0 P ops Q l a w := by
  intro l
  induction l with
  | nil =>
    intro ρ w fs re st st' a _ _ h ha hE hr hQ
    simp only [opsA, Option.some.injEq, Prod.mk.injEq] at hr
    obtain ⟨rfl, rfl⟩ := hr
    exact hQ ρ a w (Step.refl h) ha
  | cons o t ih =>
    intro ρ w fs re st st' a hd hEd h ha hE hr hQ
    simp only [opsA] at hr
    unfold wpListIn
    split at hr
    · rename_i fs1 st1 h1
      refine opA_sound hs (ro := ro) (hd o List.mem_cons_self) h ha h1 ?_ (fun v ρ' u w' q => by cases q)
      intro fs' ρ1 u w1 q hst hA hmk
      cases q
      refine ih (fun o' ho => hd o' (List.mem_cons_of_mem _ ho)) (fun o' ho => hEd o' (List.mem_cons_of_mem _ ho)) hst.hr hA ((PTR.put _ _ (hEd o List.mem_cons_self)).2 (hE.mono hst.le)) hr ?_
      rw [hmk]
      exact hQ.later h hst
    · rename_i hno
      refine opA_sound hs (ro := ro) (hd o List.mem_cons_self) h ha hr (fun fs' ρ' u w' q => ?_) (fun v ρ' u w' q hst hu => ?_)
      · subst q; exact absurd hr (hno _ _)
      · subst q; exact hQ ρ' u a w' hst hu (hE.mono hst.le) (ha.df.mono hst.le)
mutual
/-- In what orders. -/
inductive PlOk (ops : Array Oper) : Nat → Array Bool → PL → Prop
  | done {f : Nat} {listed : Array Bool} (h : Region.ready .any ops listed = []) : PlOk ops f listed .done
  | take {f : Nat} {listed : Array Bool} {i : Nat} {p : PL} (hs : ((ops[i]?).map fun o => simpleK o.op) = some true) (hr : (Region.ready .any ops listed).contains i = true) (hf : Region.free .any ops listed i = true)
      (h : PlOk ops f (listed.setIfInBounds i true) p) : PlOk ops (f + 1) listed (.take i p)
  | alts {f : Nat} {listed : Array Bool} {p : PL} (rs : List Nat) (hr : Region.ready .any ops listed = rs) (hne : rs ≠ []) (hp : AltOk ops f listed rs p) : PlOk ops (f + 1) listed p
inductive AltOk (ops : Array Oper) : Nat → Array Bool → List Nat → PL → Prop
  | stop {f : Nat} {listed : Array Bool} : AltOk ops f listed [] .stop
  | alt {f : Nat} {listed : Array Bool} {i : Nat} {rs : List Nat} {p q : PL} (hp : PlOk ops f (listed.setIfInBounds i true) p) (hq : AltOk ops f listed rs q) : AltOk ops f listed (i :: rs) (.alt i p q)
end
theorem altsA_ok {ops : Array Oper} {f : Nat} {listed : Array Bool} {go : Nat → Option PL} (hg : ∀ k p, go k = some p → PlOk ops f (listed.setIfInBounds k true) p) : ∀ {rs : List Nat} {p : PL}, altsA go rs = some p → AltOk ops f listed rs p := by
  intro rs
  induction rs with
  | nil => intro p h; simp only [altsA, Option.some.injEq] at h; subst h; exact .stop
  | cons i t ih =>
    intro p h
    simp only [altsA] at h
    split at h
    · rename_i p' q' h1 h2
      simp only [Option.some.injEq] at h; subst h
      exact .alt (hg i p' h1) (ih h2)
    · cases h
theorem planA_ok {ops : Array Oper} : ∀ {f : Nat} {listed : Array Bool} {p : PL}, planA ops f listed = some p → PlOk ops f listed p := by
  intro f
  induction f with
  | zero =>
    intro listed p h
    simp only [planA] at h
    split at h
    · rename_i hr; simp only [Option.some.injEq] at h; subst h; exact .done hr
    · cases h
  | succ f ih =>
    intro listed p h
    simp only [planA] at h
    split at h
    · rename_i hr; simp only [Option.some.injEq] at h; subst h; exact .done hr
    · rename_i i rest hr
      split at h
      · rename_i k hk
        split at h
        · rename_i p' hp
          simp only [Option.some.injEq] at h; subst h
          have h1 := List.find?_some hk
          have h2 := List.mem_of_find?_eq_some hk
          simp only [Bool.and_eq_true] at h1
          refine .take ?_ (by rw [hr]; simpa using h2) h1.2 (ih hp)
          cases ho : ops[k]? with
          | none => simp [ho] at h1
          | some o => simp [ho] at h1 ⊢; exact h1.1
        · cases h
      · exact .alts (i :: rest) hr (by simp) (altsA_ok (fun k p hp => ih hp) h)

/-- What was read, and of which operation: blocks of the world. -/
def TL (w : World) (L : List (Nat × Nat)) : Nat → World → Prop := fun k w' => ∀ g, (k, g) ∈ L → w'.heap[g]? = w.heap[g]?
/-- The world's blocks of what was read. -/
def LcOk (B : Nat) (ρ : Env) (st : St) (L : List (Nat × Nat)) (Lc : List (Nat × Nat)) : Prop :=
  ∀ k g, (k, g) ∈ Lc → g < B ∨ ∃ b x, (k, b) ∈ L ∧ ρ.blk b = g ∧ st.h.get b = some x ∧ x ≠ .dead
theorem takeA_ok {ρ : Env} {w : World} {n : Nat} {fs : FS} {st : St} {o : Oper} {a : Act} {v : AV} {l : List Nat} (h : HR Y G B ρ st.h w) (ha : AR ρ n fs a) (hr : takeA P G fs st o = some (v, l)) :
    ∃ u, ∃ gs : List Nat, VR ρ v u ∧ (∀ W : World, (∀ g ∈ gs, W.heap[g]? = w.heap[g]?) → (execOp a.eval o).run P W = .ok (.value u) W) ∧ ∀ g ∈ gs, g < B ∨ ∃ b x, b ∈ l ∧ ρ.blk b = g ∧ st.h.get b = some x ∧ x ≠ .dead := by
  unfold takeA at hr
  have he := evA_ok ha.tr
  split at hr
  · rename_i t x ho
    unfold takeL at hr
    split at hr
    · rename_i b f hx
      split at hr
      · rename_i cs hb
        split at hr
        · rename_i c hc
          simp only [Option.some.injEq, Prod.mk.injEq] at hr
          obtain ⟨rfl, rfl⟩ := hr
          obtain ⟨u, h1, h2⟩ := run_load_row (P := P) h hb hc
          have hv := he x _ hx
          simp only [VR] at hv
          refine ⟨u, [ρ.blk b], h1, fun W hW => ?_, fun g hg => ?_⟩
          · have := h2 W (hW _ (by simp))
            simp [execOp, ho, Instr.loadAt, hv.2, Instr.sureAddr, this]
          · simp only [List.mem_singleton] at hg
            subst hg
            cases hx2 : st.h.get b with
            | none => simp [hx2] at hb
            | some y =>
              refine .inr ⟨b, y, by simp, rfl, hx2, ?_⟩
              rintro rfl
              simp [hx2, rowOf] at hb
        · cases hr
      · cases hr
    · rename_i b f hx
      split at hr
      · rename_i c hg hc
        simp only [Option.some.injEq, Prod.mk.injEq] at hr
        obtain ⟨rfl, rfl⟩ := hr
        obtain ⟨hlt, u, h1, h2⟩ := h.glob _ _ _ hg
        have hv := he x _ hx
        simp only [VR] at hv
        refine ⟨u, [b], h2, fun W hW => ?_, fun g hg => ?_⟩
        · have : W.cell? ⟨b, f, none⟩ = some u := by rw [← h1]; exact World.cell?_of_block (hW b (by simp))
          simp [execOp, ho, Instr.loadAt, hv, Instr.sureAddr, loadVar, run_isAggA hc W, this]
        · simp only [List.mem_singleton] at hg
          subst hg
          exact .inl hlt
      · cases hr
    · cases hr
  · unfold takeP at hr
    split at hr
    · rename_i c hc
      simp only [Option.some.injEq, Prod.mk.injEq] at hr
      obtain ⟨rfl, rfl⟩ := hr
      obtain ⟨u, h1, h2⟩ := run_pureA he hc
      exact ⟨u, [], h1, fun W _ => h2 W, fun g hg => by cases hg⟩
    · cases hr
theorem ready_listed {ops : Array Oper} {listed : Array Bool} {i : Nat} (h : i ∈ Region.ready .any ops listed) : ¬ listed.getD i false = true := fun h1 => by
  have h0 := (mem_ready.1 h).1
  rcases Nat.lt_or_ge i listed.size with h' | h'
  · simp [h'] at h0 h1; rw [h0] at h1; cases h1
  · simp [Array.getElem?_eq_none h'] at h1
theorem set_listed {ops : Array Oper} {listed : Array Bool} {i : Nat} (h : i ∈ Region.ready .any ops listed) : (listed.setIfInBounds i true).getD i false = true := by
  have h0 := (mem_ready.1 h).1
  rcases Nat.lt_or_ge i listed.size with h' | h'
  · simp [h']
  · simp [Array.getElem?_eq_none h'] at h0
set_option maxHeartbeats 1000000 in
theorem plan_sound {s : Sys} (hs : SysOk P G s) {ro : Option Nat} {n base : Nat} {ops : Array Oper} {Q : Exit → Act → World → Prop} {E : Tr AV} (hdf : noDefer ops = true) (hsel : Region.noSelect ops = true) (hEd : ∀ (i : Nat) o, ops[i]? = some o → ∀ d, o.dst = some d → E.get d = none)
    (hQp : ∀ (i : Nat) o, ops[i]? = some o → ∀ v c a w, Q (.panic c) (a.put o.dst v) w → Q (.panic c) a w) :
    ∀ (p : PL) {f : Nat} {listed : Array Bool} {L Lc : List (Nat × Nat)} {ρ : Env} {w : World} {fs : FS} {re : RE} {st st' : St} {a : Act}, Closed .any ops listed → HR Y G B ρ st.h w → AR ρ n fs a → PTR ρ E a.tmps → LcOk B ρ st L Lc →
      (∀ k g, (k, g) ∈ Lc → listed.getD k false = true) → planRun P G s Y n base ops p L fs st = some (re, st') →
      RQ Y G B n E fs.mks ρ st w re st' Q →
      (PlOk ops f listed p → wpAnyHIn (FF ro) 0 P .any ops Q (effK ops) (TL w Lc) f listed a w) ∧
      (∀ rs, AltOk ops f listed rs p → (∀ i ∈ rs, i ∈ Region.ready .any ops listed) → ∀ i ∈ rs, wpOpIn (FF ro) 0 P ops Q i (fun a' w' => (∀ k, ¬ TC .any ops i k → TL w Lc k w → TL w Lc k w') ∧ wpAnyHIn (FF ro) 0 P .any ops Q (effK ops) (dropT .any ops (effK ops) i (TL w Lc)) f (listed.setIfInBounds i true) a' w') a w) := by
  intro p
  induction p with
  | done =>
    intro f listed L Lc ρ w fs re st st' a hcl h ha hE hL hLl hr hQ
    simp only [planRun, Option.some.injEq, Prod.mk.injEq] at hr
    obtain ⟨rfl, rfl⟩ := hr
    refine ⟨fun hp => ?_, fun rs hp => by cases hp⟩
    cases hp with
    | done hr => exact anyHIn_done hr (hQ ρ a w (Step.refl h) ha) f
    | alts rs _ _ hp => cases hp
  | stop =>
    intro f listed L Lc ρ w fs re st st' a hcl h ha hE hL hLl hr hQ
    simp only [planRun, reduceCtorEq] at hr
  | take i p ih =>
    intro f listed L Lc ρ w fs re st st' a hcl h ha hE hL hLl hr hQ
    refine ⟨fun hp => ?_, fun rs hp => by cases hp⟩
    cases hp with
    | alts rs _ _ hp => cases hp
    | take hs0 hr0 hf0 h0 =>
    rename_i f
    simp only [planRun] at hr
    split at hr
    · cases hr
    rename_i o ho
    have heff : effK ops i = false := by
      unfold effK
      rw [ho] at hs0 ⊢
      simp at hs0 ⊢
      exact hs0
    have hmem : i ∈ Region.ready .any ops listed := by simpa using hr0
    have hnl := ready_listed hmem
    have hFF : ∀ f, (FF ro).fn f := fun _ => trivial
    split at hr
    · cases hr
    · rename_i hw
      have hw' := wantA_ok ha.tr hw
      split at hr
      · rename_i tm htm
        refine anyHIn_take (oi := o) (v := undef) hFF hdf ho heff hsel hf0 hr0 hcl (fun c a w hq => hQp i o ho _ c a w hq) (.inr ⟨hw', rfl⟩) (fun g _ => rfl) ?_
        exact (ih (hcl.set hmem) h (ha.put htm und_ok) ((PTR.put _ _ (hEd i o ho)).2 hE) hL (fun k g hk => getD_set_true (hLl k g hk)) hr hQ).1 h0
      · cases hr
    · rename_i hw
      have hw' := wantA_ok ha.tr hw
      split at hr
      · rename_i v l htk
        split at hr
        · rename_i tm htm
          obtain ⟨u, gs, hu, hrun, hgs⟩ := takeA_ok h ha htk
          have hni : ∀ g, (i, g) ∉ Lc := fun g hg => hnl (hLl i g hg)
          refine held_weaken (T' := TL w (gs.map (fun g => (i, g)) ++ Lc)) _ (fun k => ?_) _ _ _ ?_
          · by_cases hk : k = i
            · subst hk; exact .inr fun W g hg => absurd hg (hni g)
            · refine .inl fun W => ⟨fun hT g hg => hT g (by simp [hg]), fun hT g hg => hT g ?_⟩
              rcases List.mem_append.1 hg with hg | hg
              · obtain ⟨g', _, e⟩ := List.mem_map.1 hg
                cases e
                exact absurd rfl hk
              · exact hg
          · refine anyHIn_take (oi := o) (v := u) hFF hdf ho heff hsel hf0 hr0 hcl (fun c a w hq => hQp i o ho _ c a w hq) (.inl ⟨hw', fun W hW => hrun W fun g hg => hW g (by simp [hg])⟩) (fun g _ => rfl) ?_
            refine (ih (L := l.map (fun b => (i, b)) ++ L) (hcl.set hmem) h (ha.put htm hu) ((PTR.put _ _ (hEd i o ho)).2 hE) ?_ ?_ hr hQ).1 h0
            · intro k g hkg
              rcases List.mem_append.1 hkg with hg | hg
              · obtain ⟨g', hg', e⟩ := List.mem_map.1 hg
                cases e
                rcases hgs g hg' with q | ⟨b, x, h1, h2, h3, h4⟩
                · exact .inl q
                · exact .inr ⟨b, x, by simp [h1], h2, h3, h4⟩
              · rcases hL k g hg with q | ⟨b, x, h1, h2, h3, h4⟩
                · exact .inl q
                · exact .inr ⟨b, x, by simp [h1], h2, h3, h4⟩
            · intro k g hkg
              rcases List.mem_append.1 hkg with hg | hg
              · obtain ⟨g', _, e⟩ := List.mem_map.1 hg
                cases e
                exact set_listed hmem
              · exact getD_set_true (hLl k g hg)
        · cases hr
      · cases hr
  | alt i p q ihp ihq =>
    intro f listed L Lc ρ w fs re st st' a hcl h ha hE hL hLl hr hQ
    have second : ∀ f rs, AltOk ops f listed rs (.alt i p q) → (∀ i ∈ rs, i ∈ Region.ready .any ops listed) → ∀ i ∈ rs, wpOpIn (FF ro) 0 P ops Q i (fun a' w' => (∀ k, ¬ TC .any ops i k → TL w Lc k w → TL w Lc k w') ∧ wpAnyHIn (FF ro) 0 P .any ops Q (effK ops) (dropT .any ops (effK ops) i (TL w Lc)) f (listed.setIfInBounds i true) a' w') a w := by
      intro f rs hp hrs j hj
      cases hp with
      | alt hp0 hq0 =>
      rename_i rs
      simp only [planRun] at hr
      split at hr
      · cases hr
      rename_i o ho
      have hpq : firstR ops i L st (fun L fs st => planRun P G s Y n base ops p L fs st) (opA P G s Y n ops (base + i) o fs st) = some (re, st') ∧ (rs ≠ [] → planRun P G s Y n base ops q L fs st = some (re, st')) := by
        unfold bothR at hr
        split at hr
        · cases hq0
          exact ⟨hr, fun q => absurd rfl q⟩
        · unfold sameR at hr
          split at hr
          · rename_i f1 s1 f2 s2 h1 h2
            cases he : eqRE f1 f2 && eqSt s1 s2 with
            | true =>
              rw [he] at hr
              simp only [Bool.and_eq_true] at he
              have e1 := eqRE_ok he.1
              have e2 := eqSt_ok he.2
              subst e1; subst e2
              simp only [cond_true, Option.some.injEq, Prod.mk.injEq] at hr
              obtain ⟨rfl, rfl⟩ := hr
              exact ⟨h1, fun _ => h2⟩
            | false => rw [he] at hr; cases hr
          · cases hr
      obtain ⟨hop, hrq⟩ := hpq
      unfold firstR at hop
      rcases List.mem_cons.1 hj with rfl | hj
      case inr =>
        have hne : rs ≠ [] := by rintro rfl; cases hj
        exact (ihq (f := f) hcl h ha hE hL hLl (hrq hne) hQ).2 rs hq0 (fun i hi => hrs i (List.mem_cons_of_mem _ hi)) j hj
      · have hmem := hrs j List.mem_cons_self
        unfold wpOpIn
        rw [ho]
        split at hop
        case h_2 =>
          rename_i hno
          refine opA_sound hs (ro := ro) (noDefer_spec hdf j o ho) h ha hop (fun fs' ρ' u w' q => ?_) (fun v ρ' u w' q hst hu => ?_)
          · subst q; exact absurd hop (hno _ _)
          · subst q; exact hQ ρ' u a w' hst hu (hE.mono hst.le) (ha.df.mono hst.le)
        rename_i fs1 st1 hop1
        cases hall : (L.all fun kb => Nat.beq (st1.cnt kb.2) (st.cnt kb.2) || rmK ops j kb.1) with
        | false => rw [hall] at hop; simp at hop
        | true =>
        rw [hall] at hop
        simp only [cond_true] at hop
        refine opA_sound hs (ro := ro) (noDefer_spec hdf j o ho) h ha hop1 ?_ (fun v ρ' u w' q => by cases q)
        intro fs' ρ1 u1 w1 q hst hA hmk
        cases q
        have keep : ∀ k g, (k, g) ∈ Lc → rmK ops j k = false → w1.heap[g]? = w.heap[g]? ∧ (g < B ∨ ∃ b x, (k, b) ∈ L ∧ ρ1.blk b = g ∧ st1.h.get b = some x ∧ x ≠ .dead) := by
          intro k g hg hrm
          rcases hL k g hg with q | ⟨b, x, h1, h2, h3, h4⟩
          · exact ⟨hst.below.block g q, .inl q⟩
          · have hc := List.all_eq_true.1 hall _ h1
            simp only [hrm, Bool.or_false, beq_iff] at hc
            obtain ⟨g1, g2⟩ := hst.tk.keep b x h3 h4 hc
            rw [h2] at g2
            exact ⟨g2, .inr ⟨b, x, h1, by rw [hst.le.blk b (h.live b x h3 h4).1]; exact h2, g1, h4⟩⟩
        have hrmf : ∀ k, ¬ (effK ops j = true ∧ TC .any ops j k) → rmK ops j k = false := by
          intro k hk
          cases hq : rmK ops j k with
          | false => rfl
          | true =>
            unfold rmK at hq
            simp only [Bool.and_eq_true] at hq
            exact absurd ⟨hq.1, before_spec hq.2⟩ hk
        refine ⟨fun k hk _ g hg => (keep k g hg (hrmf k fun q => hk q.2)).1, ?_⟩
        have hIH := (ihp (Lc := Lc.filter fun kg => !rmK ops j kg.1) (hcl.set hmem) hst.hr hA ((PTR.put _ _ (hEd j o ho)).2 (hE.mono hst.le)) ?_ ?_ hop (by rw [hmk]; exact hQ.later h hst)).1 hp0
        · refine held_weaken _ (fun k => ?_) _ _ _ hIH
          by_cases hk : effK ops j = true ∧ TC .any ops j k
          · exact .inr fun W => .inl hk
          · refine .inl fun W => ⟨fun hT => .inr fun g hg => ?_, fun hT g hg => ?_⟩
            · have := hT g (by simp [hg, hrmf k hk])
              rw [this]
              exact (keep k g hg (hrmf k hk)).1
            · rcases hT with q | hT
              · exact absurd q hk
              · have hg' : (k, g) ∈ Lc := (List.mem_filter.1 hg).1
                rw [(keep k g hg' (hrmf k hk)).1]
                exact hT g hg'
        · intro k g hkg
          obtain ⟨h1, h2⟩ := List.mem_filter.1 hkg
          simp only [Bool.not_eq_true'] at h2
          rcases (keep k g h1 h2).2 with q | ⟨b, x, g1, g2, g3, g4⟩
          · exact .inl q
          · exact .inr ⟨b, x, List.mem_filter.2 ⟨g1, by simp [h2]⟩, g2, g3, g4⟩
        · intro k g hkg
          exact getD_set_true (hLl k g (List.mem_filter.1 hkg).1)
    refine ⟨fun hp => ?_, second f⟩
    cases hp with
    | alts rs hrr hne hp =>
      exact ⟨fun h0 => absurd (hrr ▸ h0) hne, fun i hi => second _ rs hp (fun i hi => hrr ▸ hi) i (hrr ▸ hi)⟩
end
end Go.Ev
