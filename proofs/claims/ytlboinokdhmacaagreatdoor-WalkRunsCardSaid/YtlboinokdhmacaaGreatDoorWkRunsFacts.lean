import Derived.Test.YtlboinokdhmacaaGreatDoorHd
import Derived.Carry
import Derived.JoinedAt
import Derived.JoinedOf
import Derived.LaidMore
import Derived.Lay
import Derived.Lib.LaidTab
import Derived.OpenShut
import Derived.ProofKit
import Derived.SevenTiedAt
import Derived.SizedLaws
import Derived.Stop.Joined
import Derived.Stop.LaidErr
namespace Go.Proofs.YtlboinokdhmacaaGreatDoor
set_option maxHeartbeats 64000000
set_option maxRecDepth 1000000
open Go.ChangeAt Go.ChangeShapes Go.Joins Go.RowKit Go.WideElems Go.WideMaps Go.WideShapes
theorem Xt:joinedFacts Tryz.prog 3 Tryz.f3 Rows.walkRunsSpec Rows.walkRunsRow=true:=by kernel_rfl
