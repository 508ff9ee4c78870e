/- The call of alive, evaluated on closed values: it answers true, in whatever memory. -/
import Derived.Test.YtgkjhnghibpeoaaEv16
import Derived.KernelRfl
import Derived.Test.YtgkjhnghibpeoaaProg
namespace Go.Proofs.Ytgkjhnghibpeoaa
open Go.RowKit
set_option maxRecDepth 100000
set_option maxHeartbeats 0
theorem alive_runs : ((Ev.sys Try.prog (fun _ _ => none) (fun _ => none) 8000).call (fun _ => none) 10 [] Ev.st0).map (fun x => x.1) = some (.ret (.bool true)) := by kernel_rfl
theorem mixed : Try.prog.follows .mixedOrders = true := by kernel_rfl
theorem alive_call (w : World) : Calls Try.prog 10 #[] w fun e w' => e = .returned (.bool true) ∧ Below w.heap.size w w' :=
  Ev.ev_calls Ev.COk.none mixed 8000 (show Ev.FR Ev.env0 [] [] from rfl) (fun b o x h => by cases h) alive_runs rfl
end Go.Proofs.Ytgkjhnghibpeoaa
