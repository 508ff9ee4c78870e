/- The call of lives, evaluated on closed values: it answers true. -/
import Derived.Test.YtcgbjebcmdbhbaaGreatEv16
import Derived.KernelRfl
import Derived.Test.YtcgbjebcmdbhbaaGreatProg
namespace Go.Proofs.YtcgbjebcmdbhbaaGreat
set_option maxRecDepth 100000
set_option maxHeartbeats 0
theorem lives_runs : ((Ev.sys Tryz.prog (fun _ _ => none) (fun _ => none) 8000).call (fun _ => none) 11 [] Ev.st0).map (fun x => x.1) = some (.ret (.bool true)) := by kernel_rfl
end Go.Proofs.YtcgbjebcmdbhbaaGreat
