/- Two spots told alike, and parts of a slice of graphs. -/
import Derived.Test.YtgndpcoplkhhgaaGreatDoorRows
import Derived.Test.YtgndpcoplkhhgaaGreatDoorTypMade
import Derived.LoopTactic
import Derived.WalkKit
import Derived.WalkSpells
import Derived.WalkLawsBesides
import Derived.Lib.Hide
import Derived.DeepKeys
namespace Go.Proofs.YtgndpcoplkhhgaaGreatDoor
open Go.RowKit
set_option maxRecDepth 100000

theorem equal_spot' (a b : Int) (d : Nat) (w : World) : (Op.equalIn (d + 2) 28 (.agg #[.int .i64 a, .int .i64 b]) (.agg #[.int .i64 a, .int .i64 b])).run Tryz.prog w = .ok true w := by
  have hu := Tryz.underlying28
  have hi : ∀ (x : Int) w, (Op.equalIn (d + 1) 3 (.int .i64 x) (.int .i64 x)).run Tryz.prog w = .ok true w := fun x w => by
    simp [Op.equalIn, run_underlying Tryz.underlying3]
  have hp0 : ∀ w, (part 3 #[.int .i64 a, .int .i64 b] 0).run Tryz.prog w = .ok (.int .i64 a) w := fun w => by kernel_rfl
  have hp1 : ∀ w, (part 3 #[.int .i64 a, .int .i64 b] 1).run Tryz.prog w = .ok (.int .i64 b) w := fun w => by kernel_rfl
  have hst : (Tryz.prog.stoodInHeld 28) = false := by kernel_rfl
  rw [Op.equalIn]
  simp only [Sem.run_bind, run_underlying hu, Result.andThen_ok, program]
  simp [Sem.run, hst, hp0, hp1, hi]
theorem equal_spot (a b : Int) (w : World) : (Op.equal 28 (.agg #[.int .i64 a, .int .i64 b]) (.agg #[.int .i64 a, .int .i64 b])).run Tryz.prog w = .ok true w := equal_spot' a b 9998 w
theorem eq_spot (a b : Int) (w : World) : (binOp BinOp.eql 28 (.agg #[.int .i64 a, .int .i64 b]) (.agg #[.int .i64 a, .int .i64 b])).run Tryz.prog w = .ok (.bool true) w := by
  simp [binOp, equal_spot]
theorem ne_spot (a b : Int) (w : World) : (binOp BinOp.neq 28 (.agg #[.int .i64 a, .int .i64 b]) (.agg #[.int .i64 a, .int .i64 b])).run Tryz.prog w = .ok (.bool false) w := by
  simp [binOp, equal_spot]
theorem slice_one (g off n cap i : Nat) (h1 : i < n) (h2 : n ≤ cap) (_h3 : n ≤ 140737488351232) (w : World) : (Instr.sliceAt 22 (.slice (some ⟨g, off, none⟩) n cap) (some (.int .i64 (i : Int))) (some (.int .i64 ((i : Int) + 1))) none).run Tryz.prog w = .ok (.slice (some ⟨g, off + i * 3, none⟩) 1 (cap - i)) w := by
  have hb : (Instr.sliceBounds true n cap (some (.int .i64 (i : Int))) (some (.int .i64 ((i : Int) + 1))) none).run Tryz.prog w = .ok (i, i + 1, cap) w := by
    have e1 := run_sliceBound (P := Tryz.prog) w .i64 ((i : Int) + 1) cap .sliceAcap (by omega) (by omega)
    have e2 := run_sliceBound (P := Tryz.prog) w .i64 (i : Int) (i + 1) .sliceB (by omega) (by omega)
    have e3 : ((i : Int) + 1).toNat = i + 1 := by omega
    rw [e3] at e1
    simp [Instr.sliceBounds, e1, e2, Result.andThen]
  have hs : (sizeOf 39).run Tryz.prog w = .ok 3 w := by kernel_rfl
  have hc : ¬ cap = i := by omega
  simp only [Instr.sliceAt, Instr.slice, Sem.run_bind, run_underlying Tryz.underlying22, Result.andThen, hb, hs]
  simp [hc, Addr.add]
theorem slice_first (g off n cap i : Nat) (h1 : i < n) (h2 : n ≤ cap) (_h3 : n ≤ 140737488351232) (w : World) : (Instr.sliceAt 22 (.slice (some ⟨g, off, none⟩) n cap) none (some (.int .i64 ((i : Int) + 1))) none).run Tryz.prog w = .ok (.slice (some ⟨g, off, none⟩) (i + 1) cap) w := by
  have hb : (Instr.sliceBounds true n cap none (some (.int .i64 ((i : Int) + 1))) none).run Tryz.prog w = .ok (0, i + 1, cap) w := by
    have e1 := run_sliceBound (P := Tryz.prog) w .i64 ((i : Int) + 1) cap .sliceAcap (by omega) (by omega)
    have e3 : ((i : Int) + 1).toNat = i + 1 := by omega
    rw [e3] at e1
    simp [Instr.sliceBounds, e1, Result.andThen]
  have hs : (sizeOf 39).run Tryz.prog w = .ok 3 w := by kernel_rfl
  have hc : ¬ cap = 0 := by omega
  simp only [Instr.sliceAt, Instr.slice, Sem.run_bind, run_underlying Tryz.underlying22, Result.andThen, hb, hs]
  simp [hc, Addr.add]
end Go.Proofs.YtgndpcoplkhhgaaGreatDoor
