/- What the cells of a type's and an expression's fields are, where they can be read. -/
import Derived.Test.YtflbplljlkpeiaaDoorRows
import Derived.Lib.SmallJoins
import Derived.ProofKit
namespace Go.Proofs.YtflbplljlkpeiaaDoor
open Go.RowKit
section
variable {H : Type} {enc : TypeId × Value → H} {w : World} {base : Nat} {spare : Nat → Bool} {held : Bool}

theorem cell_int {t : TypeId} {k : IntKind} {n : Nat} {v : Value} {y : DataW H × List MemPlace} (ht : Tryd.prog.underlying t = some (.int k)) (h : DataW.trod enc Tryd.prog w base spare held n t [v] = some y) : ∃ i, v = .int k i ∧ (Lit.int k i).wf = true := by
  cases n with
  | zero => cases h
  | succ n =>
    unfold DataW.trod at h
    rw [ht] at h
    cases v <;> simp at h
    rename_i k' i
    obtain ⟨⟨rfl, hw⟩, -⟩ := h
    exact ⟨i, rfl, hw⟩
theorem cell_str {t : TypeId} {n : Nat} {v : Value} {y : DataW H × List MemPlace} (ht : Tryd.prog.underlying t = some .string) (h : DataW.trod enc Tryd.prog w base spare held n t [v] = some y) : ∃ s : ByteArray, v = .string s ∧ s.size ≤ maxLen := by
  cases n with
  | zero => cases h
  | succ n =>
    unfold DataW.trod at h
    rw [ht] at h
    cases v <;> simp at h
    rename_i s
    exact ⟨s, rfl, h.1⟩
end
end Go.Proofs.YtflbplljlkpeiaaDoor
