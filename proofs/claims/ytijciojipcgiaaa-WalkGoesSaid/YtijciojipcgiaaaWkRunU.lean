/- What Run answers, whichever way. -/
import Derived.Test.YtijciojipcgiaaaRows
import Derived.Test.YtijciojipcgiaaaWkRun
import Derived.Test.YtijciojipcgiaaaIrSizes
import Derived.Test.YtijciojipcgiaaaIrBoth
import Derived.Test.YtijciojipcgiaaaWkBack
import Derived.LoopTactic
import Derived.LoopN
import Derived.WalkKit
import Derived.WalkSpells
import Derived.WalkLawsBesides
import Derived.Lib.Hide
import Derived.OrdersHeld
import Derived.Deep.RegionHeld
import Derived.Deep.DrawnRows
import Derived.RegionTactic
import Derived.Deep.RegionHeld3
import Derived.IntWalk
namespace Go.Proofs.Ytijciojipcgiaaa
open Go.RowKit
set_option maxRecDepth 100000
attribute [local go_sem ↓] bld_eq bls_eq

/-- What Run answers, whichever way. -/
def RunU (c : Cd) (picks : List Int) (fuel : Int) (w : World) (e : Ending) (w' : World) : Prop := ∃ q n cap sh st, e = .returned (.tuple #[.agg #[.slice q n cap, .bool sh, .bool st], .int .i64 (refC c.words c.threads picks.length fuel)]) ∧ Below w.heap.size w w' ∧
  (refC c.words c.threads picks.length fuel = 0 → n = c.threads.length ∧ sh = (runP c.threads picks (RS0 c.words c.threads fuel.toNat)).2 ∧ st = (runP c.threads picks (RS0 c.words c.threads fuel.toNat)).1.W.strange ∧ SeenAt w' (.slice q n cap) (runP c.threads picks (RS0 c.words c.threads fuel.toNat)).1.T)
theorem run_u (B : Nat) (c : Cd) (w : World) (pv : Value) (picks : List Int) (fuel : Int) (hI : CIn w B c) (hBw : B ≤ w.heap.size) (hP : LiesG Icells 1 w B pv picks) (hf : -9223372036854775808 ≤ fuel ∧ fuel ≤ 9223372036854775807) (hxb : ∀ x ∈ picks, -9223372036854775808 ≤ x ∧ x ≤ 9223372036854775807) :
    Calls Try.prog 7 #[.agg #[.int .i64 c.words, c.tv], pv, .int .i64 fuel] w (RunU c picks fuel w) := by
  refine (run_any B c w pv picks fuel hI hBw hP hf hxb).mono ?_
  rintro e w' ⟨hb, ⟨h1, h2⟩ | ⟨h1, q, cap, h2, h3⟩⟩
  · exact ⟨none, 0, 0, false, false, h2, hb, fun h => absurd h h1⟩
  · exact ⟨q, _, cap, _, _, by rw [h2, h1], hb, fun _ => ⟨rfl, rfl, rfl, h3⟩⟩
end Go.Proofs.Ytijciojipcgiaaa
