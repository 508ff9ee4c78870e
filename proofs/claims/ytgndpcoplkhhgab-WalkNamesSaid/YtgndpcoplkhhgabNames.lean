/- The call of WalkNames, evaluated on closed values, lives known: it answers true. -/
import Derived.Test.YtgndpcoplkhhgabEv16
import Derived.KernelRfl
import Derived.Test.YtgndpcoplkhhgabProg
namespace Go.Proofs.Ytgndpcoplkhhgab
set_option maxRecDepth 100000
set_option maxHeartbeats 0
theorem names_runs : ((Ev.sys Try.prog (fun _ _ => none) (fun g => bif Nat.beq g 6 then some true else none) 8000).call (fun _ => none) 3 [] Ev.st0).map (fun x => x.1) = some (.ret (.bool true)) := by kernel_rfl
end Go.Proofs.Ytgndpcoplkhhgab
