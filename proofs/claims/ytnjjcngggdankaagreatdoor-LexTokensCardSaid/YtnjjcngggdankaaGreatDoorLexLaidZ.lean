/- What the program's text lays in the library's three variables, read out of the rows' own condition; and that the start which the program's own initialisers leave meets that condition. -/
import Derived.Test.YtnjjcngggdankaaGreatDoorRows
import Derived.Test.YtnjjcngggdankaaGreatDoorWordNum
import Derived.ProofKit
import Derived.LaidMore
import Derived.OpenShut
import Derived.Stop.Joined
import Derived.Stop.LaidErr
import Derived.Lib.LaidTab
namespace Go.Proofs.YtnjjcngggdankaaGreatDoor
open Go.ChangeShapes Go.WideShapes Go.ChangeAt Go.WideMaps Go.WideElems Go.RowKit

theorem own : ownKnob Tryz.prog.godebug = none := by kernel_rfl
theorem gForm : Tryz.prog.globalNamed "strconv.ErrSyntax" = some 1 := by kernel_rfl
theorem gSize : Tryz.prog.globalNamed "strconv.ErrRange" = some 2 := by kernel_rfl
theorem gTab : Tryz.prog.globalNamed "internal/strconv.uint64pow10" = some 3 := by kernel_rfl
theorem tForm : (Tryz.prog.globals[1]?).map (·.type) = some 288 := by kernel_rfl
theorem tSize : (Tryz.prog.globals[2]?).map (·.type) = some 288 := by kernel_rfl
theorem tTab : (Tryz.prog.globals[3]?).map (·.type) = some 316 := by kernel_rfl
theorem cellsS : Tryz.prog.cellsOf 314 = 1 := by kernel_rfl
theorem cellsT : Tryz.prog.cellsOf 9 = 1 := by kernel_rfl
theorem cellsU : Tryz.prog.cellsOf 76 = 1 := by kernel_rfl
theorem cellsA : Tryz.prog.cellsOf 316 = 20 := by kernel_rfl
theorem star : "*" ++ "errors.errorString" = "*errors.errorString" := by decide
theorem rowE (u : TypeId) (h : Tryz.prog.typeName? 3 u = some "*errors.errorString") : u = 312 :=
  typeName_ptr_named (nm := "errors.errorString") (by rw [star]; kernel_rfl) (by kernel_rfl) (by decide) u (by rw [star]; exact h)

/-- The start that the initialisers leave meets the rows' condition. -/
theorem door_met (os : Os) (args : Array Value) : laidMetH Tryz.prog Rows.lexTokensRow.laid ((World.doorLaid Tryz.prog 400 os).forCall (fun _ _ => 0) ⟨#[], args, []⟩).memory :=
  laidMetH_of_parts3 (fuel := 8) (laidMet_of_run' 8 (by kernel_rfl) (by kernel_rfl)) (by kernel_rfl) (by kernel_rfl)

theorem tabData_same : (Rows.laid_internal_strconv_uint64pow10 : DataW Unit) = Lib.tabData .u64 Lib.pow10Tab := by rfl

/-- What the condition gives the walks. -/
theorem good_of_laid {W : World} (h : laidMetH Tryz.prog Rows.lexTokensRow.laid W) : Good W := by
  rw [MakeChecks.laidMetH_plain _ _ _ (by kernel_rfl)] at h
  have h3 := laidMet.tail (laidMet.tail h)
  have h4 := laidMet.tail h3
  have h5 := laidMet.tail h4
  rw [tabData_same] at h3
  have hT := Lib.tabIs_of_head gTab tTab Tryz.underlying316 Tryz.underlying76 cellsU cellsA h3
  obtain ⟨a1, s1, v1, -, -, -⟩ := laid_sentinel h4 gSize tSize Tryz.underlying288 rowE Tryz.underlying312 Tryz.underlying314 rfl rfl Tryz.underlying9 cellsS cellsT
  obtain ⟨a2, s2, v2, -, -, -⟩ := laid_sentinel h5 gForm tForm Tryz.underlying288 rowE Tryz.underlying312 Tryz.underlying314 rfl rfl Tryz.underlying9 cellsS cellsT
  exact ⟨hT, ⟨_, _, v2⟩, ⟨_, _, v1⟩⟩

theorem i64_bounds {n : Int} (h : (Lit.int .i64 n).wf = true) : -9223372036854775808 ≤ n ∧ n ≤ 9223372036854775807 := by
  have e1 : IntKind.i64.min = -9223372036854775808 := rfl
  have e2 : IntKind.i64.max = 9223372036854775807 := rfl
  simp [Lit.wf, e1, e2] at h
  omega
end Go.Proofs.YtnjjcngggdankaaGreatDoor
