/- Operations that read or write memory. -/
import Derived.Test.YtgndpcoplkhhgaaGreatDoorEv4
import Derived.Laws.Append
import Derived.Laws.AppendOwn
namespace Go.Ev
noncomputable section
open Go Go.RowKit

inductive AN where
  | val (v : AV)
  | skip
  | enter (f : FuncId) (args : List AV)
  | round (l : Nat) (args : List AV)

def isOne : AV → Bool
  | .agg _ | .tup _ | .sym _ | .nil | .cons _ _ => false
  | _ => true
theorem isOne_run {ρ : Env} {a : AV} {v : Value} (h : isOne a = true) (hv : VR ρ a v) : v.oneCell' = true ∧ v.cells = #[v] := by
  cases a <;> simp only [isOne, Bool.false_eq_true] at h <;> simp only [VR] at hv <;> first
    | (subst hv; exact ⟨rfl, rfl⟩)
    | (replace hv := hv.2; subst hv; exact ⟨rfl, rfl⟩)
    | (replace hv := hv.2; obtain ⟨_, _, _, hv⟩ := hv; subst hv; exact ⟨rfl, rfl⟩)
    | (obtain ⟨_, _, hv⟩ := hv; subst hv; exact ⟨rfl, rfl⟩)
    | (obtain ⟨_, _, _, _, hv⟩ := hv; subst hv; exact ⟨rfl, rfl⟩)
def cellsA (a : AV) : Option (List AV) := match a with
  | .agg l => l.list
  | a => bif isOne a then some [a] else none
theorem cellsA_run {ρ : Env} {a : AV} {v : Value} {xs : List AV} (h : cellsA a = some xs) (hv : VR ρ a v) : FR ρ xs v.cells.toList := by
  unfold cellsA at h
  split at h
  · simp only [VR] at hv
    obtain ⟨us, h1, rfl⟩ := hv
    exact LR.fr h h1
  · rename_i ha
    cases h1 : isOne a with
    | false => simp [h1] at h
    | true =>
      simp [h1] at h; subst h
      rw [(isOne_run h1 hv).2]
      exact ⟨v, [], hv, rfl, rfl⟩
def setL (cs : List AV) (o : Nat) (vs : List AV) : List AV := cs.take o ++ vs ++ cs.drop (o + vs.length)

variable {Y : Nat → Option LoopRec} {G : Nat → Nat → Option AV} {B : Nat} {ρ : Env} {t0 : Tr Bl} {w : World} {P : Program}

theorem RowF.cell {g sh lim : Nat} {us : List Value} (h : RowF w g sh lim us) (i : Nat) (u : Value) (hu : us[i]? = some u) : w.cell? ⟨g, sh + i, none⟩ = some u := by
  obtain ⟨c, e, fr, h1, h2, h3, h4⟩ := h
  simp [World.cell?, h1, h4 i u hu]
theorem FR.all {xs : List AV} {us : List Value} (h : FR ρ xs us) (h1 : xs.all isOne = true) : ∀ u ∈ us, u.oneCell' = true := by
  induction xs generalizing us with
  | nil => cases h; simp
  | cons x t ih =>
    obtain ⟨v, l', h2, h3, rfl⟩ := h
    simp only [List.all_cons, Bool.and_eq_true] at h1
    intro u hu
    rcases List.mem_cons.1 hu with rfl | hu
    · exact (isOne_run h1.1 h2).1
    · exact ih h3 h1.2 u hu
theorem run_load_row (h : HR Y G B ρ t0 w) {b o : Nat} {t : TypeId} {cs : List AV} {a : AV} (hb : (t0.get b).bind rowOf = some cs) (hp : partA P t cs o = some a) :
    ∃ v, VR ρ a v ∧ ∀ W : World, W.heap[ρ.blk b]? = w.heap[ρ.blk b]? → (loadVar t ⟨ρ.blk b, ρ.sh b + o, none⟩).run P W = .ok v W := by
  obtain ⟨us, hus, hr⟩ := h.rowF hb
  unfold partA at hp
  split at hp
  · rename_i hg
    split at hp
    · rename_i n hn
      simp only [ble_dec] at hp
      by_cases hle : o + n ≤ cs.length
      case neg => simp [hle] at hp
      simp only [hle, decide_true, cond_true, Option.some.injEq] at hp; subst hp
      refine ⟨.agg ((us.drop o).take n).toArray, ?_, fun W hW => ?_⟩
      · simp only [VR]; exact ⟨_, ((hus.drop o).take n).lr, rfl⟩
      · have hlen : ((us.drop o).take n).length = n := by have := hus.length; simp; omega
        have := run_loadCells_list (P := P) W ⟨ρ.blk b, ρ.sh b + o, none⟩ ((us.drop o).take n) (fun j v hv => by
          rw [Addr.add_mid, Nat.add_assoc]
          refine (hr.congr hW).cell _ _ ?_
          rw [List.getElem?_take] at hv
          split at hv
          · rw [List.getElem?_drop] at hv; exact hv
          · cases hv)
        rw [hlen] at this
        simp only [loadVar, Sem.run_bind, run_isAggA hg W, Result.andThen_ok, if_true, run_sizeA hn W, Sem.run_pure, this]
    · cases hp
  · rename_i hg
    obtain ⟨v, hv, hx⟩ := hus.get hp
    exact ⟨v, hx, fun W hW => by simp [loadVar, Sem.run_bind, run_isAggA hg W, (hr.congr hW).cell _ _ hv]⟩
  · cases hp
theorem setL_length {cs vs : List AV} {o : Nat} (h : o + vs.length ≤ cs.length) : (setL cs o vs).length = cs.length := by
  simp [setL]; omega
/-- Cells go into a row. -/
theorem HR.store {s : St} (h : HR Y G B ρ s.h w) {b o : Nat} {cs vs : List AV} {us : List Value} (hb : s.h.get b = some (.row cs)) (hv : FR ρ vs us) (h1 : vs.all isOne = true) (hle : o + vs.length ≤ cs.length) :
    ∃ w', (storeCells ⟨ρ.blk b, ρ.sh b + o, none⟩ us).run P w = .ok () w' ∧ Step Y G B ρ s w ρ (s.put b (.row (setL cs o vs))) w' := by
  obtain ⟨cu, hcu, c, e, hg, hlim, hsh, hcell⟩ := h.blk b _ hb
  have hl := hv.length
  have hl2 := hcu.length
  have hst := run_storeCells_at P (ρ.blk b) (ρ.sh b + o) e us 0 c w hg (by omega) (hv.all h1)
  simp only [Nat.add_zero] at hst
  refine ⟨_, hst, .refl _, ?_, ?_, TK.put h hb (by simp) (fun j hj _ => setRow_other w _ j _ hj)⟩
  · refine h.set hb (by simp) (by simp) (fun j hj _ => setRow_other w _ j _ hj) (by simp) ?_
    refine ⟨cu.take o ++ us ++ cu.drop (o + us.length), ?_, _, e, setRow_heap w _ c _ e _ hg, ?_, ?_, ?_⟩
    · rw [hl]; exact ((hcu.take o).append hv).append (hcu.drop _)
    · simp; omega
    · simp; omega
    · intro i u hu
      simp only [List.getElem?_toArray]
      rw [List.getElem?_append] at hu ⊢
      rw [List.getElem?_append] at hu ⊢
      simp only [List.length_append, List.length_take, Array.length_toList] at hu ⊢
      rw [Nat.min_eq_left (by omega)] at hu ⊢
      by_cases q1 : i < o + us.length
      · rw [if_pos q1] at hu
        rw [if_pos (by omega)]
        by_cases q2 : i < o
        · rw [if_pos q2, List.getElem?_take, if_pos q2] at hu
          rw [if_pos (by omega), List.getElem?_take, if_pos (by omega)]
          simpa using hcell i u hu
        · rw [if_neg q2] at hu
          rw [if_neg (by omega), show ρ.sh b + i - (ρ.sh b + o) = i - o by omega]
          exact hu
      · rw [if_neg q1, List.getElem?_drop] at hu
        rw [if_neg (by omega), List.getElem?_drop, show ρ.sh b + o + us.length + (ρ.sh b + i - (ρ.sh b + o + us.length)) = ρ.sh b + i by omega]
        have := hcell i u (by rw [← hu]; congr 1; omega)
        simpa using this
  · exact h.below hb (by simp) ⟨rfl, rfl, rfl⟩ (fun j hj _ => setRow_other w _ j _ hj) (by simp)
/-- A new row. -/
theorem HR.newRow {s : St} (h : HR Y G B ρ s.h w) {id : Nat} (hid : s.h.get id = none) {cs : List AV} {us : List Value} (hc : FR ρ cs us) (e : TypeId) (rest : List Value) :
    Step Y G B ρ s w (ρ.ext id w.heap.size 0 (us.length + rest.length)) (s.add id (.row cs)) (w.alloc (.cells (us ++ rest).toArray e)) := by
  have hle := ρ.le_ext id w.heap.size 0 (us.length + rest.length) (h.fresh hid)
  refine ⟨hle, h.new hid _ (.row cs) (by simp) _ _ ?_, (Below.refl B w).alloc h.base _, TK.add h hid (fun j hj => Below.heap_alloc w _ j hj)⟩
  refine ⟨us, hc.mono hle, (us ++ rest).toArray, e, ?_, by simp [Env.ext], by simp [Env.ext], ?_⟩
  · simp only [Env.ext, if_true]; exact heap_alloc_new w _
  · intro i u hu
    simp only [Env.ext, if_true, Nat.zero_add, List.getElem?_toArray]
    rw [List.getElem?_append_left (by rcases Nat.lt_or_ge i us.length with q | q; exact q; rw [List.getElem?_eq_none q] at hu; cases hu)]
    exact hu
end
end Go.Ev
