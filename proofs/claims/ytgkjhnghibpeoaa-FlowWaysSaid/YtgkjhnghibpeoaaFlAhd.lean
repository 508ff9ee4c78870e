/- Which blocks lead to each. -/
import Derived.Test.YtgkjhnghibpeoaaRows
import Derived.Test.YtgkjhnghibpeoaaFlIns
import Derived.Deep.AppendLies
import Derived.Laws.OwnMore
import Derived.Laws.MakeOwn
import Derived.Laws.AppendOwn
import Derived.Test.YtgkjhnghibpeoaaIrSizes
import Derived.Test.YtgkjhnghibpeoaaFlMem
import Derived.Test.YtgkjhnghibpeoaaParseOrder
import Derived.LoopTactic
import Derived.LoopN
import Derived.Deep.LoopGhost
import Derived.WalkKit
import Derived.WalkSpells
import Derived.WalkLawsBesides
import Derived.Lib.Hide
import Derived.OrdersHeld
import Derived.Deep.RegionHeld
import Derived.Deep.DrawnRows
import Derived.RegionTactic
import Derived.Deep.RegionHeld3
import Derived.IntWalk
import Derived.Deep.QuietTactic
import Derived.BigQuiet
namespace Go.Proofs.Ytgkjhnghibpeoaa
open Go.RowKit
set_option maxRecDepth 1000000
attribute [local go_sem ↓] bld_eq bls_eq


theorem Wr.comp {S S' : Nat → Prop} {a b c : World} (h : Wr S a b) (k : Wr S' b c) (hS : ∀ x, x < a.heap.size → S' x → S x) : Wr S a c :=
  ⟨k.os.trans h.os, k.tape.trans h.tape, k.output.trans h.output, Nat.le_trans h.size k.size, fun g h1 h2 => (k.block g (Nat.lt_of_lt_of_le h1 h.size) (fun q => h2 (hS g h1 q))).trans (h.block g h1 h2)⟩
def natsV (r : List Nat) : List Value := r.map fun (n : Nat) => Value.int .i64 (n : Int)
/-- Rows that grow, each in a block of its own. -/
structure AhdM (w : World) (lo gA N : Nat) (vs : List Value) (A : List (List Nat)) : Prop where
  row : w.heap[gA]? = some (.cells vs.toArray 26 (0, 0))
  vlen : vs.length = N
  len : A.length = N
  own : ∀ (y : Nat) (v : Value) (r : List Nat), vs[y]? = some v → A[y]? = some r → w.ownsRow lo 3 1 v r.length (natsV r)
  sep : ∀ (y y' : Nat) (v v' : Value) (k : Nat), y ≠ y' → vs[y]? = some v → vs[y']? = some v' → v.ownBlock = some k → v'.ownBlock ≠ some k
  notA : ∀ (y : Nat) (v : Value), vs[y]? = some v → v.ownBlock ≠ some gA
theorem AhdM.keeps {w w' : World} {lo gA N : Nat} {vs : List Value} {A : List (List Nat)} (h : AhdM w lo gA N vs A) (hb : Below w.heap.size w w') : AhdM w' lo gA N vs A :=
  ⟨(hb.block _ (Array.getElem?_eq_some_iff.1 h.row).1).trans h.row, h.vlen, h.len, fun y v r h1 h2 => (h.own y v r h1 h2).kept (row := none) ⟨hb.os, hb.tape, hb.output, hb.size, fun k hk _ => hb.block k hk⟩ (by cases v.ownBlock <;> simp), h.sep, h.notA⟩
theorem infoIntF : (Try.prog.info? 3).map (fun i => (i.zero, i.size, i.bytes)) = some (some (.int .i64 0), 1, 8) := by kernel_rfl
theorem AhdM.push {w : World} {lo gA N : Nat} {vs : List Value} {A : List (List Nat)} (h : AhdM w lo gA N vs A) (hlo : lo ≤ w.heap.size) {y n : Nat} {v : Value} {r : List Nat} (hv : vs[y]? = some v) (hr : A[y]? = some r) (hl : r.length ≤ 4096) :
    ∃ gq cap w8, (Builtin.append_ #[26, 26] 26 #[v, .slice (some ⟨w.heap.size, 0, none⟩) 1 1]).run Try.prog (w.alloc (.cells #[.int .i64 (n : Int)] 3)) = .ok (.slice (some ⟨gq, 0, none⟩) (r.length + 1) cap) w8 ∧
      w8.cell? ⟨gA, y, none⟩ = some v ∧ w8.frozen? ⟨gA, y, none⟩ = false ∧ gA < w8.heap.size ∧
      AhdM (w8.setCell ⟨gA, y, none⟩ (.slice (some ⟨gq, 0, none⟩) (r.length + 1) cap)) lo gA N (vs.set y (.slice (some ⟨gq, 0, none⟩) (r.length + 1) cap)) (A.set y (r ++ [n])) ∧
      Wr (fun x => x = gA ∨ v.ownBlock = some x) w (w8.setCell ⟨gA, y, none⟩ (.slice (some ⟨gq, 0, none⟩) (r.length + 1) cap)) ∧ (v.ownBlock = some gq ∨ w.heap.size ≤ gq) := by
  obtain ⟨i, hi, hz, hs, hb⟩ := info_parts infoIntF
  have hgA := (Array.getElem?_eq_some_iff.1 h.row).1
  obtain ⟨U, hU⟩ : ∃ U, U = w.alloc (.cells #[.int .i64 (n : Int)] 3) := ⟨_, rfl⟩
  have hbU : Below w.heap.size w U := by rw [hU]; exact below_box w _
  have hzU : U.heap.size = w.heap.size + 1 := by rw [hU]; simp
  have hN : U.heap[w.heap.size]? = some (.cells #[.int .i64 (n : Int)] 3 (0, 0)) := by rw [hU]; exact (MapKept.heap_alloc _ _).1
  have hMU := h.keeps hbU
  have ho := hMU.own y v r hv hr
  rw [← hU]
  obtain ⟨gq, cap, w8, hrun, hown, hg, hat, hlt⟩ := run_append_lies (P := Try.prog) U 26 26 lo 3 i (.int .i64 0) 1 8 Try.underlying26 hi hz hs hb rfl (by decide) v r.length (natsV r) ho ⟨w.heap.size, 0, none⟩ 1 1 [.int .i64 (n : Int)] rfl
    (fun j u hu => by
      cases j with
      | zero => simp at hu; subst hu; rw [show (⟨w.heap.size, 0, none⟩ : Addr).add 0 = ⟨w.heap.size, 0, none⟩ by rfl, Lib.cell_of_heap hN]; rfl
      | succ j => simp at hu) (fun u hu => by simp at hu; subst hu; rfl) (by decide) (by unfold maxLen; omega) (by omega) (by omega) U.heap.size rfl
  refine ⟨gq, cap, w8, ?_⟩
  obtain ⟨nv, hnv⟩ : ∃ nv, nv = Value.slice (some ⟨gq, 0, none⟩) (r.length + 1) cap := ⟨_, rfl⟩
  rw [← hnv] at hrun hown ⊢
  have hnb : nv.ownBlock = some gq := by rw [hnv]; rfl
  have hne : v.ownBlock ≠ some gA := h.notA y v hv
  have hrow8 : w8.heap[gA]? = some (.cells vs.toArray 26 (0, 0)) := (hg.block gA (by omega) (fun q => hne q.symm)).trans hMU.row
  have hqA : gq ≠ gA := by
    rcases hat with q | q
    · intro e; subst e; exact hne q
    · omega
  have hlow : lo ≤ gq := by
    have := hown.lt gq hnb
    exact this.1
  have hyl := some_lt hv
  have hset := heap_setCell_same w8 gA y _ _ nv hrow8
  have hoth : ∀ x, x ≠ gA → (w8.setCell ⟨gA, y, none⟩ nv).heap[x]? = w8.heap[x]? := fun x hx => Below.heap_setCell _ _ _ _ hx
  have hgb : w8.grownBy (w8.setCell ⟨gA, y, none⟩ nv) (some gA) := ⟨rfl, rfl, rfl, by rw [size_set]; exact Nat.le_refl _, fun k hk hk2 => hoth k (fun e => hk2 (by rw [e]))⟩
  refine ⟨hrun, ?_, Lib.frozen_of_heap hrow8 y, (Array.getElem?_eq_some_iff.1 hrow8).1, ⟨?_, by simpa using h.vlen, by simpa using h.len, fun y' v' r' h1 h2 => ?_, fun y1 y2 v1 v2 k hne2 h1 h2 hk => ?_, fun y' v' h1 => ?_⟩, ⟨hg.os.trans hbU.os, hg.tape.trans hbU.tape, hg.output.trans hbU.output, by rw [size_set]; exact Nat.le_trans hbU.size hg.size, fun x hx hnx => ?_⟩, ?_⟩
  · rw [Lib.cell_of_heap hrow8]; simpa using hv
  · rw [hset, List.setIfInBounds_toArray]
  · by_cases e : y' = y
    · subst e
      rw [List.getElem?_set, if_pos rfl, if_pos hyl] at h1
      rw [List.getElem?_set, if_pos rfl, if_pos (some_lt hr)] at h2
      cases h1; cases h2
      have := hown.kept hgb (.inr (by rw [hnb]; intro q; cases q; exact hqA rfl))
      rw [List.length_append, List.length_singleton, natsV, List.map_append]
      exact this
    · rw [List.getElem?_set, if_neg (fun q => e q.symm)] at h1 h2
      have h3 := hMU.own y' v' r' h1 h2
      have h4 : v'.ownBlock = none ∨ v'.ownBlock ≠ v.ownBlock := by
        cases hk : v'.ownBlock with
        | none => exact .inl rfl
        | some k => exact .inr (fun q => h.sep y' y v' v k e h1 hv hk q.symm)
      have h5 := h3.kept hg h4
      exact h5.kept hgb (by
        cases hk : v'.ownBlock with
        | none => exact .inl rfl
        | some k => exact .inr (fun q => h.notA y' v' h1 (hk.trans q)))
  · rw [List.getElem?_set] at h1 h2
    have hfar : ∀ y3 v3, y3 ≠ y → vs[y3]? = some v3 → v3.ownBlock ≠ some gq := fun y3 v3 hy3 hv3 q => by
      rcases hat with p | p
      · exact h.sep y3 y v3 v gq hy3 hv3 hv q p
      · have := ((hMU.own y3 v3 (A[y3]'(by rw [h.len, ← h.vlen]; exact some_lt hv3)) hv3 (List.getElem?_eq_getElem _)).lt gq q).2
        omega
    by_cases e1 : y = y1
    · subst e1
      rw [if_pos rfl, if_pos hyl] at h1
      cases h1
      rw [if_neg hne2] at h2
      rw [hnb] at hk
      cases hk
      exact hfar y2 v2 (fun q => hne2 q.symm) h2
    · rw [if_neg e1] at h1
      by_cases e2 : y = y2
      · subst e2
        rw [if_pos rfl, if_pos hyl] at h2
        cases h2
        rw [hnb]
        intro q
        cases q
        exact hfar y1 v1 (fun q => e1 q.symm) h1 hk
      · rw [if_neg e2] at h2
        exact h.sep y1 y2 v1 v2 k hne2 h1 h2 hk
  · rw [List.getElem?_set] at h1
    by_cases e1 : y = y'
    · rw [if_pos e1, if_pos hyl] at h1
      cases h1; rw [hnb]; intro q; cases q; exact hqA rfl
    · rw [if_neg e1] at h1
      exact h.notA y' v' h1
  · simp only [not_or] at hnx
    rw [hoth x hnx.1, hg.block x (by omega) (fun q => hnx.2 q.symm)]
    exact hbU.block x hx
  · rcases hat with q | q
    · exact .inl q
    · exact .inr (by omega)
theorem make_rows (n : Nat) (hn : n ≤ 8192) (w : World) : (Instr.makeSlice 32 (.int .i64 (n : Int)) (.int .i64 (n : Int))).run Try.prog w = .ok (.slice (some ⟨w.heap.size, 0, none⟩) n n) (w.alloc (.cells (List.replicate n (.slice none 0 0)).toArray 26)) :=
  make_list 32 26 (.slice none 0 0) 24 (by kernel_rfl) rfl (by kernel_rfl) n hn (by decide) w
theorem ahdR_len (bl : List Bk) (R : List Bool) (k y : Nat) : (ahdR bl R k y).length ≤ k := by
  unfold ahdR
  have := List.length_filter_le (fun n => bitAt R n && goesB bl n y) (List.range k)
  simpa using this
end Go.Proofs.Ytgkjhnghibpeoaa
