/- What a text builds: structs, and slices of a few elements, as walks meet them. -/
import Derived.Test.YtgndpcoplkhhgaaGreatDoorRows
import Derived.Test.YtgndpcoplkhhgaaGreatDoorProg
import Derived.Great.BuildSlice
import Derived.Laws.Tables
import Derived.Lib.Hide
namespace Go.Proofs.YtgndpcoplkhhgaaGreatDoor
open Go.RowKit
set_option maxRecDepth 100000
@[irreducible] noncomputable def bld (t : TypeId) (parts : Array (Nat × Value)) : Sem Value := Instr.build t parts
theorem bld_eq (t : TypeId) (parts : Array (Nat × Value)) : Instr.build t parts = bld t parts := by unfold bld; rfl
@[irreducible] noncomputable def bls (t : TypeId) (n : Nat) (parts : Array (Nat × Value)) : Sem Value := Instr.buildSlice t n parts
theorem bls_eq (t : TypeId) (n : Nat) (parts : Array (Nat × Value)) : Instr.buildSlice t n parts = bls t n parts := by unfold bls; rfl
theorem bld_of (t : TypeId) (parts : Array (Nat × Value)) (cells : Array Value) (h : Tryz.prog.built t parts.toList = some cells) (w : World) : (bld t parts).run Tryz.prog w = .ok (.agg cells) w := by
  unfold bld
  exact run_build w t parts cells h
theorem bls_of (t e : TypeId) (k n : Nat) (parts : Array (Nat × Value)) (cells : Array Value) (hs : (Tryz.prog.info? e).isSome = true) (hz : ((Tryz.prog.info? e).get hs).zero.isSome = true) (hn : ((Tryz.prog.info? e).get hs).size = n) (hk : 0 < k ∧ k ≤ 2) (hn0 : 0 < n ∧ n ≤ 100) (hu : Tryz.prog.underlying t = some (.slice e))
    (hf : Instr.fill (fun i => some (i * n, n)) ((Array.range (k * n)).map ((((Tryz.prog.info? e).get hs).zero.get hz).cells[· % (((Tryz.prog.info? e).get hs).zero.get hz).cells.size]!)) parts.toList = some cells) (w : World) :
    (bls t k parts).run Tryz.prog w = .ok (.slice (some ⟨w.heap.size, 0, none⟩) k k) (w.alloc (.cells cells e)) := by
  unfold bls
  have h1 : ¬ k * n > 2 ^ 24 := by
    have : k * n ≤ 2 * 100 := Nat.mul_le_mul hk.2 hn0.2
    omega
  have h2 : ¬ k * n = 0 := by
    have : 1 * 1 ≤ k * n := Nat.mul_le_mul hk.1 hn0.1
    omega
  exact run_buildSlice w t e k parts cells ((Tryz.prog.info? e).get hs) (((Tryz.prog.info? e).get hs).zero.get hz) hu (Option.some_get hs).symm (Option.some_get hz).symm (by rw [hn]; exact h1) (by rw [hn]; exact h2) (by rw [hn]; exact hf)

end Go.Proofs.YtgndpcoplkhhgaaGreatDoor
