/- The show layer's ways of giving up: what its two askers do, at every argument. -/
import Derived.Test.YtflbplljlkpeiaaDoorRows
import Derived.WalkKit
import Derived.WalkSpells
import Derived.WalkLawsBesides
import Derived.Lib.Hide
namespace Go.Proofs.YtflbplljlkpeiaaDoor
open Go.RowKit

/-- What the package's own panic with the error r carries. -/
def fl (r : Int) : List PanicEntry := [{ v := .iface 73 (.agg #[.int .i64 r]), recovered := false }]
/-- A walk that gives up by the error r; at 0 it ends. -/
def ended (r : Int) : Ending := if r = 0 then .returned (.tuple #[]) else .panicked (fl r)
theorem ended_ok {r : Int} (h : r = 0) : ended r = .returned (.tuple #[]) := if_pos h
theorem ended_no {r : Int} (h : ¬ r = 0) : ended r = .panicked (fl r) := if_neg h

set_option maxHeartbeats 400000 in
theorem must_yes (w : World) : Calls Tryd.prog 32 #[.bool true] w fun e w' => e = .returned (.tuple #[]) ∧ w = w' := by
  go_enter Tryd.func32, Tryd.ntmps32
  go_wp2
  go_end0
  exact ⟨rfl, rfl⟩

set_option maxHeartbeats 400000 in
theorem must_no (w : World) : Calls Tryd.prog 32 #[.bool false] w fun e w' => e = .panicked (fl 1) ∧ w = w' := by
  go_enter Tryd.func32, Tryd.ntmps32
  go_wp2
  exact ⟨rfl, rfl, rfl⟩

set_option maxHeartbeats 400000 in
theorem most_yes (n m : Int) (h : n ≤ m) (w : World) : Calls Tryd.prog 34 #[.int .i64 n, .int .i64 m] w fun e w' => e = .returned (.tuple #[]) ∧ w = w' := by
  go_enter Tryd.func34, Tryd.ntmps34
  go_wp2
  go_end0
  exact ⟨rfl, rfl⟩

set_option maxHeartbeats 400000 in
theorem most_no (n m : Int) (h : m < n) (w : World) : Calls Tryd.prog 34 #[.int .i64 n, .int .i64 m] w fun e w' => e = .panicked (fl 3) ∧ w = w' := by
  go_enter Tryd.func34, Tryd.ntmps34
  go_wp2
  exact ⟨rfl, rfl, rfl⟩
end Go.Proofs.YtflbplljlkpeiaaDoor
