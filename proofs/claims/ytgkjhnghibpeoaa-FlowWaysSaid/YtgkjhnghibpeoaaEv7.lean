/- Structs and slices made of parts; make; copy. -/
import Derived.Test.YtgkjhnghibpeoaaEv6
namespace Go.Ev
noncomputable section
open Go Go.RowKit
variable {Y : Nat → Option LoopRec} {G : Nat → Nat → Option AV} {B : Nat} {ρ : Env} {w : World} {P : Program}

theorem foldl_set (off : Nat) : ∀ (vs : List Value) (k : Nat) (cs : Array Value), off + k + vs.length ≤ cs.size →
    ((vs.zipIdx k).foldl (fun (cs : Array Value) (x : Value × Nat) => cs.setIfInBounds (off + x.2) x.1) cs).toList = cs.toList.take (off + k) ++ vs ++ cs.toList.drop (off + k + vs.length) := by
  intro vs
  induction vs with
  | nil => intro k cs _; simp
  | cons v t ih =>
    intro k cs h
    simp only [List.length_cons] at h
    simp only [List.zipIdx_cons, List.foldl_cons]
    rw [ih (k + 1) _ (by simp; omega)]
    have e := list_seg_step cs.toList (off + k) v t (by simp; omega)
    simpa [Array.toList_setIfInBounds, Nat.add_assoc] using e
theorem fill_one (off : Nat) (v : Array Value) (cs : Array Value) (h : off + v.size ≤ cs.size) :
    (v.zipIdx.foldl (fun cs (x : Value × Nat) => cs.setIfInBounds (off + x.2) x.1) cs).toList = cs.toList.take off ++ v.toList ++ cs.toList.drop (off + v.size) := by
  have := foldl_set off v.toList 0 cs (by simpa using h)
  rw [← Array.foldl_toList, Array.toList_zipIdx]
  simpa using this
def fillA (place : Nat → Option (Nat × Nat)) (cells : List AV) : List (Nat × AV) → Option (List AV)
  | [] => some cells
  | (i, v) :: rest => match place i, cellsA v with
    | some (off, size), some xs => bif Nat.beq xs.length size && Nat.ble (off + xs.length) cells.length then fillA place (setL cells off xs) rest else none
    | _, _ => none
/-- Parts, pointwise. -/
def PR (ρ : Env) : List (Nat × AV) → List (Nat × Value) → Prop
  | [], l => l = []
  | a :: t, l => ∃ v l', VR ρ a.2 v ∧ PR ρ t l' ∧ l = (a.1, v) :: l'
theorem run_fillA {place : Nat → Option (Nat × Nat)} : ∀ {ps : List (Nat × AV)} {qs : List (Nat × Value)} {cells out : List AV} {cs : Array Value}, PR ρ ps qs → FR ρ cells cs.toList → fillA place cells ps = some out →
    ∃ os, Instr.fill place cs qs = some os ∧ FR ρ out os.toList := by
  intro ps
  induction ps with
  | nil =>
    intro qs cells out cs hq hc h
    cases hq
    simp only [fillA, Option.some.injEq] at h; subst h
    exact ⟨cs, rfl, hc⟩
  | cons p t ih =>
    obtain ⟨i, a⟩ := p
    rintro qs cells out cs ⟨v, l', hv, hl, rfl⟩ hc h
    simp only [fillA] at h
    split at h
    case h_2 => cases h
    rename_i off size xs hp hx
    simp only [beq_dec, ble_dec, ← Bool.decide_and, Bool.cond_decide] at h
    split at h
    case isFalse => cases h
    rename_i q
    obtain ⟨rfl, hle⟩ := q
    have hx' := cellsA_run hx hv
    have h1 := hx'.length
    have h2 := hc.length
    simp only [Array.length_toList] at h1 h2
    have hFR : FR ρ (setL cells off xs) (v.cells.zipIdx.foldl (fun (cs : Array Value) (x : Value × Nat) => cs.setIfInBounds (off + x.2) x.1) cs).toList := by
      rw [fill_one off v.cells cs (by omega)]
      show FR ρ (cells.take off ++ xs ++ cells.drop (off + xs.length)) _
      rw [← h1]
      exact ((hc.take off).append hx').append (hc.drop _)
    obtain ⟨os, ho, hr⟩ := ih hl hFR h
    refine ⟨os, ?_, hr⟩
    simp only [Instr.fill, hp]
    rw [if_neg (by simp; omega)]
    exact ho
def evps (ev : Operand → Option AV) : List (Nat × Operand) → Option (List (Nat × AV))
  | [] => some []
  | x :: t => match ev x.2 with
    | some a => match evps ev t with
      | some l => some ((x.1, a) :: l)
      | none => none
    | none => none
theorem evps_PR {ev : Operand → Option AV} {r : Operand → Value} (he : EvOk ρ ev r) : ∀ {xs : List (Nat × Operand)} {l : List (Nat × AV)}, evps ev xs = some l → PR ρ l (xs.map fun x => (x.1, r x.2)) := by
  intro xs
  induction xs with
  | nil => intro l h; simp only [evps, Option.some.injEq] at h; subst h; rfl
  | cons x t ih =>
    intro l h
    simp only [evps] at h
    split at h
    · rename_i a ha
      split at h
      · rename_i l' hl
        simp only [Option.some.injEq] at h; subst h
        exact ⟨r x.2, _, he x.2 a ha, ih hl, rfl⟩
      · cases h
    · cases h
def placesA (P : Program) : List Field → Option (List (Nat × Nat))
  | [] => some []
  | f :: t => match sizeA P f.type, placesA P t with
    | some n, some l => some ((f.offset, n) :: l)
    | _, _ => none
theorem run_placesA : ∀ {fs : List Field} {l : List (Nat × Nat)}, placesA P fs = some l → ∀ w, (fs.mapM (m := Sem) fun (f : Field) => do pure (f.offset, ← sizeOf f.type)).run P w = .ok l w := by
  intro fs
  induction fs with
  | nil => intro l h w; simp only [placesA, Option.some.injEq] at h; subst h; simp
  | cons f t ih =>
    intro l h w
    simp only [placesA] at h
    split at h
    · rename_i n l' hn hl
      simp only [Option.some.injEq] at h; subst h
      have := ih hl w
      simp at this
      simp [List.mapM_cons, run_sizeA hn w, this]
    · cases h
def buildA (P : Program) (ev : Operand → Option AV) (t : TypeId) (parts : List (Nat × Operand)) : Option AV :=
  match zeroA P t with
  | some z => match cellsA z, evps ev parts with
    | some zs, some ps => match P.underlying t with
      | some (.struct fs) => match placesA P fs.toList with
        | some pl => match fillA (fun i => pl[i]?) zs ps with
          | some cs => some (.agg (.of cs))
          | none => none
        | none => none
      | some (.array _ e) => match sizeA P e with
        | some n => match fillA (fun i => some (i * n, n)) zs ps with
          | some cs => some (.agg (.of cs))
          | none => none
        | none => none
      | _ => none
    | _, _ => none
  | none => none
theorem run_buildA {ev : Operand → Option AV} {r : Operand → Value} (he : EvOk ρ ev r) {t : TypeId} {parts : Array (Nat × Operand)} {a : AV} (h : buildA P ev t parts.toList = some a) :
    ∃ v, VR ρ a v ∧ ∀ w, (Instr.build t (parts.map fun (i, x) => (i, r x))).run P w = .ok v w := by
  unfold buildA at h
  split at h
  case h_2 => cases h
  rename_i z hz
  split at h
  case h_2 => cases h
  rename_i zs ps hzs hps
  obtain ⟨zv, hzr, hzw⟩ := run_zeroA (ρ := ρ) hz
  have hc := cellsA_run hzs hzr
  have hq : PR ρ ps (parts.map fun (i, x) => (i, r x)).toList := by simpa using evps_PR he hps
  split at h
  · rename_i fs hu
    split at h
    case h_2 => cases h
    rename_i pl hpl
    split at h
    case h_2 => cases h
    rename_i cs hf
    simp only [Option.some.injEq] at h; subst h
    obtain ⟨os, ho, hr⟩ := run_fillA hq hc hf
    refine ⟨.agg os, ?_, fun w => ?_⟩
    · simp only [VR]; exact ⟨_, hr.lr, by simp⟩
    · have hm := run_placesA hpl w
      have ho' : Instr.fill (fun x => pl.toArray[x]?) zv.cells (parts.map fun (i, x) => (i, r x)).toList = some os := by simpa using ho
      simp [] at hm ho'
      simp [Instr.build, hzw w, run_underlying hu w, Array.mapM_eq_mapM_toList, hm, ho']
  · rename_i k e hu
    split at h
    case h_2 => cases h
    rename_i n hn
    split at h
    case h_2 => cases h
    rename_i cs hf
    simp only [Option.some.injEq] at h; subst h
    obtain ⟨os, ho, hr⟩ := run_fillA hq hc hf
    refine ⟨.agg os, ?_, fun w => ?_⟩
    · simp only [VR]; exact ⟨_, hr.lr, by simp⟩
    · simp at ho
      simp [Instr.build, hzw w, run_underlying hu w, run_sizeA hn w, ho]
  · cases h
end
end Go.Ev
