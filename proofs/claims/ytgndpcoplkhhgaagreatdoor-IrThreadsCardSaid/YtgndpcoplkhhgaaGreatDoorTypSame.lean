/- Worlds whose blocks below a number are the same. -/
import Derived.Test.YtgndpcoplkhhgaaGreatDoorRows
import Derived.Below
namespace Go.Proofs.YtgndpcoplkhhgaaGreatDoor
open Go.RowKit
/-- The blocks below L are as they were. -/
def SameTo (L : Nat) (w W : World) : Prop := ∀ k, k < L → W.heap[k]? = w.heap[k]?
theorem SameTo.refl (L : Nat) (w : World) : SameTo L w w := fun _ _ => rfl
theorem SameTo.drew (L : Nat) (w : World) : SameTo L w w.drew := fun _ _ => rfl
theorem SameTo.cell {L : Nat} {w W : World} (h : SameTo L w W) {p : Addr} {v : Value} (hp : p.block < L) (hc : w.cell? p = some v) : W.cell? p = some v := by
  rw [← hc]; simp only [World.cell?, h _ hp]
theorem SameTo.of {L : Nat} {w W : World} (h : Below L w W) : SameTo L w W := fun k hk => h.block k hk
theorem SameTo.trans {L : Nat} {a b c : World} (h : SameTo L a b) (k : SameTo L b c) : SameTo L a c := fun i hi => (k i hi).trans (h i hi)

end Go.Proofs.YtgndpcoplkhhgaaGreatDoor
