/- The call of lives, evaluated on closed values: it answers true. -/
import Derived.Test.YtgndpcoplkhhgabEv16
import Derived.KernelRfl
import Derived.Test.YtgndpcoplkhhgabProg
namespace Go.Proofs.Ytgndpcoplkhhgab
set_option maxRecDepth 100000
set_option maxHeartbeats 0
theorem lives_runs : ((Ev.sys Try.prog (fun _ _ => none) (fun _ => none) 8000).call (fun _ => none) 6 [] Ev.st0).map (fun x => x.1) = some (.ret (.bool true)) := by kernel_rfl
end Go.Proofs.Ytgndpcoplkhhgab
