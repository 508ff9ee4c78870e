/- How many bits a number has: the library's own text walked. -/
import Derived.Test.YtgkjhnghibpeoaaRows
import Derived.Lib.Strings
import Derived.Lib.Slices
import Derived.Lib.Small
import Derived.Lib.Walk
import Derived.Lib.BitFns
namespace Go.Proofs.Ytgkjhnghibpeoaa
set_option maxRecDepth 100000
theorem len_fin (x : Int) (s d : Nat) (y : Int) (hd : d = 2 ^ s) (hs : s ≤ 56) (h0 : 0 ≤ x) (h1 : x ≤ 18446744073709551615) (hx : s = 0 ∨ (d : Int) ≤ x) (hy : y = x / (d : Int)) (hy2 : y < 256) :
    Lib.len8 (y % 256) = (Lib.bitLen y.toNat : Int) ∧ Lib.bitLen x.toNat = s + Lib.bitLen y.toNat ∧ Lib.bitLen y.toNat ≤ 8 := by
  have hd0 : 0 < d := by rw [hd]; exact Nat.two_pow_pos s
  have hy0 : 0 ≤ y := by rw [hy]; exact Int.ediv_nonneg h0 (by omega)
  have e : y % 256 = y := Int.emod_eq_of_lt hy0 hy2
  rw [e]
  refine ⟨Lib.len8_of y hy0 (by omega), ?_, Lib.bitLen_le8' y hy0 (by omega)⟩
  rcases hx with rfl | hx
  · have : d = 1 := hd
    subst this
    have : y = x := by rw [hy]; simp
    rw [this, Nat.zero_add]
  · have e2 : y.toNat = x.toNat / d := by
      obtain ⟨n, rfl⟩ : ∃ n : Nat, x = (n : Int) := ⟨x.toNat, by omega⟩
      rw [hy, Int.toNat_natCast, ← Int.natCast_ediv, Int.toNat_natCast]
    rw [e2, hd]
    exact Lib.bitLen_shift s x.toNat (by rw [← hd]; omega) (by omega)
set_option maxHeartbeats 16000000 in
theorem len64_any (x : Int) (w : World) (h0 : 0 ≤ x) (h1 : x ≤ 18446744073709551615) :
    Calls Try.prog 28 #[.int .u64 x] w fun e w' => e = .returned (.int .i64 (Lib.bitLen x.toNat)) ∧ w' = w := by
  go_enter Try.func28, Try.ntmps28
  go_wp2
  all_goals (go_ret; refine ⟨congrArg Ending.returned (congrArg (Value.int IntKind.i64) ?_), rfl⟩)
  all_goals first
    | (obtain ⟨a1, a2, a3⟩ := len_fin x 56 72057594037927936 (x / 4294967296 / 65536 / 256) (by decide) (by omega) h0 h1 (by omega) (by omega) (by omega)
       rw [a1, a2]; omega)
    | (obtain ⟨a1, a2, a3⟩ := len_fin x 48 281474976710656 (x / 4294967296 / 65536) (by decide) (by omega) h0 h1 (by omega) (by omega) (by omega)
       rw [a1, a2]; omega)
    | (obtain ⟨a1, a2, a3⟩ := len_fin x 40 1099511627776 (x / 4294967296 / 256) (by decide) (by omega) h0 h1 (by omega) (by omega) (by omega)
       rw [a1, a2]; omega)
    | (obtain ⟨a1, a2, a3⟩ := len_fin x 32 4294967296 (x / 4294967296) (by decide) (by omega) h0 h1 (by omega) (by omega) (by omega)
       rw [a1, a2]; omega)
    | (obtain ⟨a1, a2, a3⟩ := len_fin x 24 16777216 (x / 65536 / 256) (by decide) (by omega) h0 h1 (by omega) (by omega) (by omega)
       rw [a1, a2]; omega)
    | (obtain ⟨a1, a2, a3⟩ := len_fin x 16 65536 (x / 65536) (by decide) (by omega) h0 h1 (by omega) (by omega) (by omega)
       rw [a1, a2]; omega)
    | (obtain ⟨a1, a2, a3⟩ := len_fin x 8 256 (x / 256) (by decide) (by omega) h0 h1 (by omega) (by omega) (by omega)
       rw [a1, a2]; omega)
    | (obtain ⟨a1, a2, a3⟩ := len_fin x 0 1 (x) (by decide) (by omega) h0 h1 (by omega) (by omega) (by omega)
       rw [a1, a2]; omega)
theorem bitLen_log : ∀ x : Nat, 0 < x → x < 2 ^ 64 → Lib.bitLen x = x.log2 + 1 := by
  intro x
  induction x using Nat.strongRecOn with
  | _ x ih =>
    intro h0 hx
    rw [Lib.bitLen_half x (by omega) hx, Nat.log2_def]
    by_cases h : 2 ≤ x
    · rw [if_pos h, ih (x / 2) (by omega) (by omega) (by omega)]; omega
    · have : x = 1 := by omega
      subst this
      decide
theorem log_bit {x : Nat} (h0 : 0 < x) : x.testBit x.log2 = true ∧ ∀ i, x.log2 < i → x.testBit i = false := by
  have h1 := Nat.log2_self_le (show x ≠ 0 by omega)
  have h2 : x < 2 ^ (x.log2 + 1) := Nat.lt_log2_self
  refine ⟨Nat.testBit_of_two_pow_le_and_two_pow_add_one_gt h1 h2, fun i hi => Nat.testBit_lt_two_pow (Nat.lt_of_lt_of_le h2 (Nat.pow_le_pow_right (by decide) hi))⟩
end Go.Proofs.Ytgkjhnghibpeoaa
