/- The call of alive, evaluated on closed values, the library's table being known: it answers true, in whatever memory holds that table. -/
import Derived.Test.YtgkjhnghibpeoaaDoorEv16
import Derived.KernelRfl
import Derived.Test.YtgkjhnghibpeoaaDoorProg
import Derived.Test.YtgkjhnghibpeoaaDoorLvEach
namespace Go.Proofs.YtgkjhnghibpeoaaDoor
open Go.RowKit
set_option maxRecDepth 100000
set_option maxHeartbeats 0
/-- What is known of old cells: the table. -/
def lowG (b o : Nat) : Option Ev.AV := if b == 0 then (lowTab[o]?).map (fun (t : Nat) => Ev.AV.int .u8 (t : Int)) else none
theorem alive_runs : ((Ev.sys Tryd.prog lowG (fun _ => none) 8000).call (fun _ => none) 8 [] Ev.st0).map (fun x => x.1) = some (.ret (.bool true)) := by kernel_rfl
theorem Alive_lt {w : World} {g off : Nat} {v : Value} (h : w.cell? ⟨g, off, none⟩ = some v) : g < w.heap.size := by
  unfold World.cell? at h
  by_cases hlt : g < w.heap.size
  · exact hlt
  · simp [Array.getElem?_eq_none (Nat.le_of_not_lt hlt)] at h
theorem mixed : Tryd.prog.follows .mixedOrders = true := by kernel_rfl
theorem alive_call (w : World) (hG : Good w) : Calls Tryd.prog 8 #[] w fun e w' => e = .returned (.bool true) ∧ Below w.heap.size w w' :=
  Ev.ev_calls Ev.COk.none mixed 8000 (show Ev.FR Ev.env0 [] [] from rfl) (fun b o x h => by
    unfold lowG at h
    split at h
    · rename_i hb
      have hb' : b = 0 := by simpa using hb
      subst hb'
      cases ht : lowTab[o]? with
      | none => rw [ht] at h; cases h
      | some t =>
        rw [ht] at h
        cases h
        have hc := hG.at ht
        exact ⟨Alive_lt hc, _, hc, rfl⟩
    · cases h) alive_runs rfl
end Go.Proofs.YtgkjhnghibpeoaaDoor
