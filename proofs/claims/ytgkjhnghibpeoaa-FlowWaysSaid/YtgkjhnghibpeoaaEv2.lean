/- What an operation yields that asks nothing of the world. -/
import Derived.Test.YtgkjhnghibpeoaaEv1
namespace Go.Ev
noncomputable section
open Go Go.RowKit

theorem ble_dec (a b : Nat) : Nat.ble a b = decide (a ≤ b) := by
  rw [Bool.eq_iff_iff, Nat.ble_eq]; simp

/-- A program of the machine that asks nothing of the world. -/
def rp {α : Type} (P : Program) : Sem α → Option α
  | .pure a => some a
  | .program k => rp P (k P)
  | .mark _ k => rp P k
  | _ => none
theorem rp_run {α : Type} {P : Program} : ∀ {e : Sem α} {a : α}, rp P e = some a → ∀ w, e.run P w = .ok a w := by
  intro e
  induction e with
  | pure a => intro b h w; simp only [rp, Option.some.injEq] at h; subst h; rfl
  | program k ih => intro b h w; simp only [rp] at h; exact ih P h w
  | mark m k ih => intro b h w; simp only [rp] at h; exact ih h w
  | _ => intro b h; simp only [rp, reduceCtorEq] at h

def sizeA (P : Program) (t : TypeId) : Option Nat := (P.info? t).map (·.size)
theorem run_sizeA {P : Program} {t : TypeId} {n : Nat} (h : sizeA P t = some n) (w : World) : (sizeOf t).run P w = .ok n w := by
  unfold sizeA at h
  cases hi : P.info? t with
  | none => simp [hi] at h
  | some i => simp [hi] at h; simp [sizeOf, typeInfo, hi, h]
def zeroA (P : Program) (t : TypeId) : Option AV := ((P.info? t).bind (·.zero)).bind ofVal
theorem run_zeroA {P : Program} {t : TypeId} {a : AV} {ρ : Env} (h : zeroA P t = some a) : ∃ v, VR ρ a v ∧ ∀ w, (zeroValue t).run P w = .ok v w := by
  unfold zeroA at h
  cases hi : P.info? t with
  | none => simp [hi] at h
  | some i =>
    cases hz : i.zero with
    | none => simp [hi, hz] at h
    | some v => simp [hi, hz] at h; exact ⟨v, ofVal_VR h, fun w => by simp [zeroValue, typeInfo, hi, hz]⟩
def aggT : TypeDesc → Bool
  | .struct _ | .array _ _ => true
  | _ => false
def isAggA (P : Program) (t : TypeId) : Option Bool := (P.underlying t).map aggT
theorem run_isAggA {P : Program} {t : TypeId} {b : Bool} (h : isAggA P t = some b) (w : World) : (isAgg t).run P w = .ok b w := by
  unfold isAggA at h
  cases hu : P.underlying t with
  | none => simp [hu] at h
  | some d =>
    simp [hu] at h
    simp only [isAgg, Sem.run_bind, run_underlying hu w, Result.andThen_ok]
    subst h
    cases d <;> rfl

def partA (P : Program) (t : TypeId) (xs : List AV) (off : Nat) : Option AV :=
  match isAggA P t with
  | some true => match sizeA P t with
    | some n => bif Nat.ble (off + n) xs.length then some (.agg (.of ((xs.drop off).take n))) else none
    | none => none
  | some false => xs[off]?
  | none => none
theorem FR.drop {ρ : Env} : ∀ {a : List AV} {l : List Value} (n : Nat), FR ρ a l → FR ρ (a.drop n) (l.drop n) := by
  intro a
  induction a with
  | nil => rintro l n h; cases h; simp [FR]
  | cons x t ih =>
    rintro l n ⟨v, l', h1, h2, rfl⟩
    cases n with
    | zero => exact ⟨v, l', h1, h2, rfl⟩
    | succ n => exact ih n h2
theorem FR.take {ρ : Env} : ∀ {a : List AV} {l : List Value} (n : Nat), FR ρ a l → FR ρ (a.take n) (l.take n) := by
  intro a
  induction a with
  | nil => rintro l n h; cases h; simp [FR]
  | cons x t ih =>
    rintro l n ⟨v, l', h1, h2, rfl⟩
    cases n with
    | zero => simp [FR]
    | succ n => exact ⟨v, l'.take n, h1, ih n h2, rfl⟩
theorem run_partA {P : Program} {t : TypeId} {xs : List AV} {off : Nat} {a : AV} {ρ : Env} {us : List Value} (h : partA P t xs off = some a) (hl : FR ρ xs us) :
    ∃ v, VR ρ a v ∧ ∀ w, (part t us.toArray off).run P w = .ok v w := by
  unfold partA at h
  split at h
  · rename_i hg
    split at h
    · rename_i n hn
      simp only [ble_dec] at h
      by_cases hle : off + n ≤ xs.length
      case neg => simp [hle] at h
      simp only [hle, decide_true, cond_true, Option.some.injEq] at h; subst h
      refine ⟨.agg ((us.drop off).take n).toArray, ?_, fun w => ?_⟩
      · simp only [VR]; exact ⟨_, ((hl.drop off).take n).lr, rfl⟩
      · simp only [part, Sem.run_bind, run_isAggA hg w, Result.andThen_ok, if_true, run_sizeA hn w, Sem.run_pure]
        congr 2
        apply Array.ext'
        simp [List.take_drop]
    · cases h
  · rename_i hg
    obtain ⟨v, hv, hr⟩ := hl.get h
    exact ⟨v, hr, fun w => by simp [part, Sem.run_bind, run_isAggA hg w, hv]⟩
  · cases h

/-- The operands as abstract values. -/
def EvOk (ρ : Env) (ev : Operand → Option AV) (r : Operand → Value) : Prop := ∀ x a, ev x = some a → VR ρ a (r x)

def fldA (P : Program) (s : TypeId) (f : Nat) : Option Field := match P.underlying s with
  | some (.struct fs) => fs[f]?
  | _ => none
def evs (ev : Operand → Option AV) : List Operand → Option (List AV)
  | [] => some []
  | x :: t => match ev x with
    | some a => match evs ev t with
      | some l => some (a :: l)
      | none => none
    | none => none
theorem evs_FR {ρ : Env} {ev : Operand → Option AV} {r : Operand → Value} (he : EvOk ρ ev r) : ∀ {xs : List Operand} {l : List AV}, evs ev xs = some l → FR ρ l (xs.map r) := by
  intro xs
  induction xs with
  | nil => intro l h; simp only [evs, Option.some.injEq] at h; subst h; rfl
  | cons x t ih =>
    intro l h
    simp only [evs] at h
    split at h
    · rename_i a ha
      split at h
      · rename_i l' hl
        simp only [Option.some.injEq] at h; subst h
        exact ⟨r x, t.map r, he x a ha, ih hl, rfl⟩
      · cases h
    · cases h

/-- Bounds of a slice: low, high, max. -/
def optI (ev : Operand → Option AV) (d : Nat) : Option Operand → Option Nat
  | none => some d
  | some x => match ev x with
    | some (.int _ (.ofNat n)) => some n
    | _ => none
def slA (P : Program) (ev : Operand → Option AV) (t : TypeId) (x : Operand) (lo hi mx : Option Operand) : Option AV :=
  match P.underlying t, ev x, mx with
  | some (.slice e), some (.sl b o n c z x), none => match optI ev 0 lo, optI ev n hi, sizeA P e with
    | some l, some h, some z' => bif Nat.beq z z' && (Nat.ble l h && Nat.ble h c) then
        (bif Nat.ble l 0 then some (.sl b o h c z x) else bif Nat.ble (l + 1) c then some (.sl b (o + l * z) (h - l) (c - l) z x) else bif Nat.beq h l then some .sle else none) else none
    | _, _, _ => none
  | some (.slice e), some (.sl b o n c z _x), some m => match optI ev 0 lo, optI ev n hi, optI ev n (some m), sizeA P e with
    | some l, some h, some m, some z' => bif hi.isSome && (Nat.beq z z' && (Nat.ble l h && (Nat.ble h m && Nat.ble m c)) && Nat.ble (l + 1) m) then
        some (.sl b (o + l * z) (h - l) (m - l) z true) else none
    | _, _, _, _ => none
  | some (.slice e), some .nils, none => match optI ev 0 lo, optI ev 0 hi with
    | some l, some h => match sizeA P e with
      | some _ => bif Nat.beq l 0 && Nat.beq h 0 then some .nils else none
      | none => none
    | _, _ => none
  | _, _, _ => none
theorem optI_run {ρ : Env} {ev : Operand → Option AV} {r : Operand → Value} (he : EvOk ρ ev r) {d n : Nat} {x : Operand} (h : optI ev d (some x) = some n) : ∃ k, r x = .int k n := by
  unfold optI at h
  split at h
  · rename_i q; cases q
  · rename_i y hy
    cases hy
    split at h
    · rename_i k m hm
      simp only [Option.some.injEq] at h; subst h
      have := he x _ hm
      simp only [VR] at this
      exact ⟨k, by simpa using this⟩
    · cases h
theorem run_bound {P : Program} {w : World} {k : IntKind} {n y : Nat} {c : BoundsCode} (h : n ≤ y) : (Instr.sliceBound (.int k n) y c).run P w = .ok n w := by
  simp only [Instr.sliceBound, asIntOf, Sem.run_bind, Sem.run_pure, Result.andThen_ok]
  rw [if_pos (by omega)]
  simp
theorem run_bounds {P : Program} {w : World} {ρ : Env} {ev : Operand → Option AV} {r : Operand → Value} (he : EvOk ρ ev r) {n c l h m : Nat} {lo hi mx : Option Operand}
    (hl : optI ev 0 lo = some l) (hh : optI ev n hi = some h) (hm : match mx with | none => m = c | some x => optI ev n (some x) = some m ∧ hi.isSome) (h1 : l ≤ h) (h2 : h ≤ m) (h3 : m ≤ c) :
    (Instr.sliceBounds true n c (lo.map r) (hi.map r) (mx.map r)).run P w = .ok (l, h, m) w := by
  cases mx with
  | none =>
    simp only at hm; subst hm
    cases hi with
    | none =>
      simp only [optI, Option.some.injEq] at hh; subst hh
      cases lo with
      | none => simp only [optI, Option.some.injEq] at hl; subst hl; simp [Instr.sliceBounds]
      | some x =>
        obtain ⟨k, hk⟩ := optI_run he hl
        simp [Instr.sliceBounds, hk, run_bound h1]
    | some y =>
      obtain ⟨k, hk⟩ := optI_run he hh
      cases lo with
      | none => simp only [optI, Option.some.injEq] at hl; subst hl; simp [Instr.sliceBounds, hk, run_bound h2]
      | some x =>
        obtain ⟨k', hk'⟩ := optI_run he hl
        simp [Instr.sliceBounds, hk, hk', run_bound h1, run_bound h2]
  | some z =>
    obtain ⟨hm, hs⟩ := hm
    obtain ⟨kz, hkz⟩ := optI_run he hm
    cases hi with
    | none => simp at hs
    | some y =>
      obtain ⟨k, hk⟩ := optI_run he hh
      cases lo with
      | none => simp only [optI, Option.some.injEq] at hl; subst hl; simp [Instr.sliceBounds, hk, hkz, run_bound h2, run_bound h3]
      | some x =>
        obtain ⟨k', hk'⟩ := optI_run he hl
        simp [Instr.sliceBounds, hk, hk', hkz, run_bound h1, run_bound h2, run_bound h3]
end
end Go.Ev
