/- What the program's text lays in the library's three variables, read out of the rows' own condition; and that the start which the program's own initialisers leave meets that condition. -/
import Derived.Test.YtcibiiddigpnfaaGreatDoorRows
import Derived.Test.YtcibiiddigpnfaaGreatDoorGTw
import Derived.ProofKit
import Derived.LaidMore
import Derived.OpenShut
import Derived.Stop.Joined
import Derived.Stop.LaidErr
import Derived.Lib.LaidTab
namespace Go.Proofs.YtcibiiddigpnfaaGreatDoor
open Go.ChangeShapes Go.WideShapes Go.ChangeAt Go.WideMaps Go.WideElems Go.RowKit
theorem ownS : ownKnob Tryz.prog.godebug = none := by kernel_rfl
theorem gTabS : Tryz.prog.globalNamed "internal/strconv.uint64pow10" = some 0 := by kernel_rfl
theorem tTabS : (Tryz.prog.globals[0]?).map (·.type) = some 226 := by kernel_rfl
theorem cellsUS : Tryz.prog.cellsOf 218 = 1 := by kernel_rfl
theorem cellsAS : Tryz.prog.cellsOf 226 = 20 := by kernel_rfl
theorem doorS_met (os : Os) (args : Array Value) : laidMetH Tryz.prog Rows.shapeWholeRow.laid ((World.doorLaid Tryz.prog 400 os).forCall (fun _ _ => 0) ⟨#[], args, []⟩).memory :=
  laidMetH_of_parts3 (fuel := 8) (laidMet_of_run' 8 (by kernel_rfl) (by kernel_rfl)) (by kernel_rfl) (by kernel_rfl)
theorem tabDataS_same : (Rows.laid_internal_strconv_uint64pow10 : DataW Unit) = Lib.tabData .u64 Lib.pow10Tab := by rfl
theorem tabS_of_laid {W : World} (h : laidMetH Tryz.prog Rows.shapeWholeRow.laid W) : Tab W := by
  rw [MakeChecks.laidMetH_plain _ _ _ (by kernel_rfl)] at h
  have h3 := laidMet.tail (laidMet.tail h)
  rw [tabDataS_same] at h3
  exact ⟨Lib.tabIs_of_head gTabS tTabS Tryz.underlying226 Tryz.underlying218 cellsUS cellsAS h3⟩
end Go.Proofs.YtcibiiddigpnfaaGreatDoor
