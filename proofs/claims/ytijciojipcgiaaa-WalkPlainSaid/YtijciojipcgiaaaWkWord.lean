/- Plain facts about numbers of 64 bits that wrap round: what each operation of the word layer answers, and the laws of a ring, of quotients and of order. Nothing here speaks of the program. -/
import Derived.WalkKit
import Derived.Laws.Bits64
import Derived.Test.YtijciojipcgiaaaRows
import Derived.WalkSpells
import Derived.WalkLawsBesides
import Derived.Lib.Hide
namespace Go.Proofs.Ytijciojipcgiaaa
open Go.RowKit

/-- Whether the operation c is refused with the divisor b, as an error's number. -/
def doE (c b : Int) : Int := if 1 ≤ c ∧ c ≤ 14 then (if (c = 4 ∨ c = 5) ∧ b = 0 then 4 else 0) else 1

/-- By how many places b moves bits. -/
def moves (b : Int) : Nat := min (IntKind.u64.wrap (bits BinOp.and IntKind.i64 b 63)).toNat 64

/-- What the operation c makes of a and b; 0 where it is refused. -/
def doN (c a b : Int) : Int :=
  if c = 1 then wrap64 (a + b) else
  if c = 2 then wrap64 (a - b) else
  if c = 3 then wrap64 (a * b) else
  if c = 4 then (if b = 0 then 0 else wrap64 (a.tdiv b)) else
  if c = 5 then (if b = 0 then 0 else a.tmod b) else
  if c = 6 then bits BinOp.and IntKind.i64 a b else
  if c = 7 then bits BinOp.or IntKind.i64 a b else
  if c = 8 then bits BinOp.xor IntKind.i64 a b else
  if c = 9 then wrap64 (IntKind.u64.wrap (IntKind.u64.wrap a * 2 ^ moves b)) else
  if c = 10 then wrap64 (IntKind.u64.wrap a / 2 ^ moves b) else
  if c = 11 then (if a = b then 1 else 0) else
  if c = 12 then (if a = b then 0 else 1) else
  if c = 13 then (if a < b then 1 else 0) else
  if c = 14 then (if a ≤ b then 1 else 0) else 0

theorem wrap64_alike (x y : Int) (h : x % 18446744073709551616 = y % 18446744073709551616) : wrap64 x = wrap64 y := by
  unfold wrap64; omega
theorem wrap64_mod (x : Int) : wrap64 x % 18446744073709551616 = x % 18446744073709551616 := by
  unfold wrap64; omega
theorem wrap64_within (x : Int) : -9223372036854775808 ≤ wrap64 x ∧ wrap64 x ≤ 9223372036854775807 := by
  unfold wrap64; omega
theorem u64_mod (x : Int) : IntKind.u64.wrap x % 18446744073709551616 = x % 18446744073709551616 := by
  rw [IntKind.wrap_u64]; omega

theorem add_alike (a b c d : Int) (h : a % 18446744073709551616 = c % 18446744073709551616) (g : b % 18446744073709551616 = d % 18446744073709551616) : (a + b) % 18446744073709551616 = (c + d) % 18446744073709551616 := by
  rw [Int.add_emod, h, g, ← Int.add_emod]
theorem sub_alike (a b c d : Int) (h : a % 18446744073709551616 = c % 18446744073709551616) (g : b % 18446744073709551616 = d % 18446744073709551616) : (a - b) % 18446744073709551616 = (c - d) % 18446744073709551616 := by
  rw [Int.sub_emod, h, g, ← Int.sub_emod]
theorem mul_alike (a b c d : Int) (h : a % 18446744073709551616 = c % 18446744073709551616) (g : b % 18446744073709551616 = d % 18446744073709551616) : (a * b) % 18446744073709551616 = (c * d) % 18446744073709551616 := by
  rw [Int.mul_emod, h, g, ← Int.mul_emod]

theorem u64_add (a b : Int) : wrap64 (IntKind.u64.wrap (IntKind.u64.wrap a + IntKind.u64.wrap b)) = wrap64 (a + b) :=
  wrap64_alike _ _ (by rw [u64_mod]; exact add_alike _ _ _ _ (u64_mod a) (u64_mod b))
theorem u64_sub (a b : Int) : wrap64 (IntKind.u64.wrap (IntKind.u64.wrap a - IntKind.u64.wrap b)) = wrap64 (a - b) :=
  wrap64_alike _ _ (by rw [u64_mod]; exact sub_alike _ _ _ _ (u64_mod a) (u64_mod b))
theorem u64_mul (a b : Int) : wrap64 (IntKind.u64.wrap (IntKind.u64.wrap a * IntKind.u64.wrap b)) = wrap64 (a * b) :=
  wrap64_alike _ _ (by rw [u64_mod]; exact mul_alike _ _ _ _ (u64_mod a) (u64_mod b))

theorem doN_1 (a b : Int) : doN 1 a b = wrap64 (a + b) := by simp [doN]
theorem doN_2 (a b : Int) : doN 2 a b = wrap64 (a - b) := by simp [doN]
theorem doN_3 (a b : Int) : doN 3 a b = wrap64 (a * b) := by simp [doN]
theorem doN_4 (a b : Int) (h : ¬ b = 0) : doN 4 a b = wrap64 (a.tdiv b) := by simp [doN, h]
theorem doN_5 (a b : Int) (h : ¬ b = 0) : doN 5 a b = a.tmod b := by simp [doN, h]
theorem doN_4z (a : Int) : doN 4 a 0 = 0 := by simp [doN]
theorem doN_5z (a : Int) : doN 5 a 0 = 0 := by simp [doN]
theorem doN_11 (a b : Int) : doN 11 a b = if a = b then 1 else 0 := by simp [doN]
theorem doN_12 (a b : Int) : doN 12 a b = if a = b then 0 else 1 := by simp [doN]
theorem doN_13 (a b : Int) : doN 13 a b = if a < b then 1 else 0 := by simp [doN]
theorem doN_14 (a b : Int) : doN 14 a b = if a ≤ b then 1 else 0 := by simp [doN]
theorem doN_else (c a b : Int) (h : c < 1 ∨ 14 < c) : doN c a b = 0 := by
  unfold doN
  rw [if_neg (by omega), if_neg (by omega), if_neg (by omega), if_neg (by omega), if_neg (by omega), if_neg (by omega), if_neg (by omega), if_neg (by omega), if_neg (by omega), if_neg (by omega), if_neg (by omega), if_neg (by omega), if_neg (by omega), if_neg (by omega)]
theorem doE_else (c b : Int) (h : c < 1 ∨ 14 < c) : doE c b = 1 := by
  unfold doE; rw [if_neg (by omega)]
theorem doE_fine (c b : Int) (h1 : 1 ≤ c) (h2 : c ≤ 14) (h : ¬ b = 0 ∨ ¬ (c = 4 ∨ c = 5)) : doE c b = 0 := by
  unfold doE; rw [if_pos ⟨h1, h2⟩, if_neg (by omega)]

theorem least_4 : doN 4 (-9223372036854775808) (-1) = -9223372036854775808 := by
  rw [doN_4 _ _ (by decide)]; unfold wrap64; decide

/-! ### A ring -/
theorem ring_sum (a b c : Int) : doN 1 (doN 1 a b) c = doN 1 b (doN 1 c a) := by
  rw [doN_1, doN_1, doN_1, doN_1]
  refine wrap64_alike _ _ ?_
  rw [add_alike _ _ _ _ (wrap64_mod (a + b)) rfl, add_alike _ _ _ _ rfl (wrap64_mod (c + a))]
  congr 1; omega
theorem ring_back (a b : Int) (h0 : -9223372036854775808 ≤ a) (h1 : a ≤ 9223372036854775807) : doN 2 (doN 1 a b) b = a := by
  rw [doN_1, doN_2]; unfold wrap64; omega
theorem ring_product (a b c : Int) : doN 3 (doN 3 a b) c = doN 3 b (doN 3 c a) := by
  rw [doN_3, doN_3, doN_3, doN_3]
  refine wrap64_alike _ _ ?_
  rw [mul_alike _ _ _ _ (wrap64_mod (a * b)) rfl, mul_alike _ _ _ _ rfl (wrap64_mod (c * a))]
  congr 1; rw [Int.mul_comm a b, Int.mul_assoc, Int.mul_comm a c]
theorem ring_through (a b c : Int) : doN 3 a (doN 1 b c) = doN 1 (doN 3 a b) (doN 3 a c) := by
  rw [doN_1, doN_3, doN_3, doN_3, doN_1]
  refine wrap64_alike _ _ ?_
  rw [mul_alike _ _ _ _ rfl (wrap64_mod (b + c)), add_alike _ _ _ _ (wrap64_mod (a * b)) (wrap64_mod (a * c))]
  congr 1; exact Int.mul_add a b c

/-! ### Quotient and what is left -/
theorem again (a b : Int) (hb : ¬ b = 0) (h0 : -9223372036854775808 ≤ a) (h1 : a ≤ 9223372036854775807) : doN 1 (doN 3 b (doN 4 a b)) (doN 5 a b) = a := by
  rw [doN_1, doN_3, doN_4 a b hb, doN_5 a b hb]
  have e : wrap64 (wrap64 (b * wrap64 (a.tdiv b)) + a.tmod b) = wrap64 a := by
    refine wrap64_alike _ _ ?_
    rw [add_alike _ _ _ _ ((wrap64_mod _).trans (mul_alike _ _ _ _ rfl (wrap64_mod _))) rfl, Int.mul_tdiv_add_tmod]
  rw [e]; unfold wrap64; omega
theorem left_lesser (a b : Int) (hb : ¬ b = 0) : ((doN 5 a b).natAbs : Int) < (b.natAbs : Int) := by
  rw [doN_5 a b hb, Int.natAbs_tmod]
  have := Nat.mod_lt a.natAbs (show b.natAbs > 0 by omega)
  omega
theorem left_sign (a b : Int) (hb : ¬ b = 0) (hm : ¬ doN 5 a b = 0) : (doN 5 a b < 0) ↔ (a < 0) := by
  rw [doN_5 a b hb] at hm ⊢
  by_cases ha : a < 0
  · have : 0 ≤ (-a).tmod b := Int.tmod_nonneg b (by omega)
    rw [Int.neg_tmod] at this
    omega
  · have : 0 ≤ a.tmod b := Int.tmod_nonneg b (by omega)
    omega
theorem left_within (a b : Int) (hb : ¬ b = 0) (h0 : -9223372036854775808 ≤ a) (h1 : a ≤ 9223372036854775807) : -9223372036854775808 ≤ doN 5 a b ∧ doN 5 a b ≤ 9223372036854775807 := by
  have e : (doN 5 a b).natAbs ≤ a.natAbs := by rw [doN_5 a b hb, Int.natAbs_tmod]; exact Nat.mod_le _ _
  by_cases ha : a < 0
  · by_cases hz : doN 5 a b = 0
    · omega
    · have := (left_sign a b hb hz).2 ha; omega
  · by_cases hz : doN 5 a b = 0
    · omega
    · have := mt (left_sign a b hb hz).1 ha; omega
theorem size_neg (n : Int) (h0 : -9223372036854775808 ≤ n) (h : n < 0) : IntKind.u64.wrap (-IntKind.u64.wrap n) = (n.natAbs : Int) := by
  rw [IntKind.wrap_u64, IntKind.wrap_u64]; omega
end Go.Proofs.Ytijciojipcgiaaa
namespace Go.Proofs.Ytijciojipcgiaaa
open Go.RowKit

set_option maxHeartbeats 400000 in
theorem code_1 (a b : Int) (w : World) :
    Calls Try.prog 52 #[.int .u8 1, .int .i64 a, .int .i64 b] w fun e w' => e = .returned (.tuple #[.int .i64 (doN 1 a b), .int .i64 (doE 1 b)]) ∧ w = w' := by
  go_enter Try.func52, Try.ntmps52
  go_wp2
  go_ret2
  exact ⟨by simp [doN, doE], rfl⟩
set_option maxHeartbeats 400000 in
theorem code_2 (a b : Int) (w : World) :
    Calls Try.prog 52 #[.int .u8 2, .int .i64 a, .int .i64 b] w fun e w' => e = .returned (.tuple #[.int .i64 (doN 2 a b), .int .i64 (doE 2 b)]) ∧ w = w' := by
  go_enter Try.func52, Try.ntmps52
  go_wp2
  go_ret2
  exact ⟨by simp [doN, doE], rfl⟩
set_option maxHeartbeats 400000 in
theorem code_3 (a b : Int) (w : World) :
    Calls Try.prog 52 #[.int .u8 3, .int .i64 a, .int .i64 b] w fun e w' => e = .returned (.tuple #[.int .i64 (doN 3 a b), .int .i64 (doE 3 b)]) ∧ w = w' := by
  go_enter Try.func52, Try.ntmps52
  go_wp2
  go_ret2
  exact ⟨by simp [doN, doE], rfl⟩
set_option maxHeartbeats 400000 in
theorem code_4z (a : Int) (w : World) :
    Calls Try.prog 52 #[.int .u8 4, .int .i64 a, .int .i64 0] w fun e w' => e = .returned (.tuple #[.int .i64 (doN 4 a 0), .int .i64 (doE 4 0)]) ∧ w = w' := by
  go_enter Try.func52, Try.ntmps52
  go_wp2
  go_ret2
  exact ⟨by simp [doN, doE], rfl⟩
set_option maxHeartbeats 400000 in
theorem code_4 (a b : Int) (hb : ¬ b = 0) (w : World) :
    Calls Try.prog 52 #[.int .u8 4, .int .i64 a, .int .i64 b] w fun e w' => e = .returned (.tuple #[.int .i64 (doN 4 a b), .int .i64 (doE 4 b)]) ∧ w = w' := by
  go_enter Try.func52, Try.ntmps52
  go_wp2
  go_ret2
  exact ⟨by simp [doN, doE, hb], rfl⟩
set_option maxHeartbeats 400000 in
theorem code_5z (a : Int) (w : World) :
    Calls Try.prog 52 #[.int .u8 5, .int .i64 a, .int .i64 0] w fun e w' => e = .returned (.tuple #[.int .i64 (doN 5 a 0), .int .i64 (doE 5 0)]) ∧ w = w' := by
  go_enter Try.func52, Try.ntmps52
  go_wp2
  go_ret2
  exact ⟨by simp [doN, doE], rfl⟩
set_option maxHeartbeats 400000 in
theorem code_5 (a b : Int) (hb : ¬ b = 0) (w : World) :
    Calls Try.prog 52 #[.int .u8 5, .int .i64 a, .int .i64 b] w fun e w' => e = .returned (.tuple #[.int .i64 (doN 5 a b), .int .i64 (doE 5 b)]) ∧ w = w' := by
  go_enter Try.func52, Try.ntmps52
  go_wp2
  go_ret2
  exact ⟨by simp [doN, doE, hb], rfl⟩
set_option maxHeartbeats 400000 in
theorem code_6 (a b : Int) (w : World) :
    Calls Try.prog 52 #[.int .u8 6, .int .i64 a, .int .i64 b] w fun e w' => e = .returned (.tuple #[.int .i64 (doN 6 a b), .int .i64 (doE 6 b)]) ∧ w = w' := by
  go_enter Try.func52, Try.ntmps52
  go_wp2
  go_ret2
  exact ⟨by simp [doN, doE], rfl⟩
set_option maxHeartbeats 400000 in
theorem code_7 (a b : Int) (w : World) :
    Calls Try.prog 52 #[.int .u8 7, .int .i64 a, .int .i64 b] w fun e w' => e = .returned (.tuple #[.int .i64 (doN 7 a b), .int .i64 (doE 7 b)]) ∧ w = w' := by
  go_enter Try.func52, Try.ntmps52
  go_wp2
  go_ret2
  exact ⟨by simp [doN, doE], rfl⟩
set_option maxHeartbeats 400000 in
theorem code_8 (a b : Int) (w : World) :
    Calls Try.prog 52 #[.int .u8 8, .int .i64 a, .int .i64 b] w fun e w' => e = .returned (.tuple #[.int .i64 (doN 8 a b), .int .i64 (doE 8 b)]) ∧ w = w' := by
  go_enter Try.func52, Try.ntmps52
  go_wp2
  go_ret2
  exact ⟨by simp [doN, doE], rfl⟩
set_option maxHeartbeats 400000 in
theorem code_9 (a b : Int) (w : World) :
    Calls Try.prog 52 #[.int .u8 9, .int .i64 a, .int .i64 b] w fun e w' => e = .returned (.tuple #[.int .i64 (doN 9 a b), .int .i64 (doE 9 b)]) ∧ w = w' := by
  go_enter Try.func52, Try.ntmps52
  go_wp2
  go_ret2
  exact ⟨by simp [doN, doE, moves], rfl⟩
set_option maxHeartbeats 400000 in
theorem code_10 (a b : Int) (w : World) :
    Calls Try.prog 52 #[.int .u8 10, .int .i64 a, .int .i64 b] w fun e w' => e = .returned (.tuple #[.int .i64 (doN 10 a b), .int .i64 (doE 10 b)]) ∧ w = w' := by
  go_enter Try.func52, Try.ntmps52
  go_wp2
  go_ret2
  exact ⟨by simp [doN, doE, moves], rfl⟩
set_option maxHeartbeats 400000 in
theorem code_11 (a b : Int) (w : World) :
    Calls Try.prog 52 #[.int .u8 11, .int .i64 a, .int .i64 b] w fun e w' => e = .returned (.tuple #[.int .i64 (doN 11 a b), .int .i64 (doE 11 b)]) ∧ w = w' := by
  by_cases h : a = b
  all_goals
    go_enter Try.func52, Try.ntmps52
    go_wp2
    go_ret2
    exact ⟨by simp [doN, doE, h], rfl⟩
set_option maxHeartbeats 400000 in
theorem code_12 (a b : Int) (w : World) :
    Calls Try.prog 52 #[.int .u8 12, .int .i64 a, .int .i64 b] w fun e w' => e = .returned (.tuple #[.int .i64 (doN 12 a b), .int .i64 (doE 12 b)]) ∧ w = w' := by
  by_cases h : a = b
  all_goals
    go_enter Try.func52, Try.ntmps52
    go_wp2
    go_ret2
    exact ⟨by simp [doN, doE, h], rfl⟩
set_option maxHeartbeats 400000 in
theorem code_13 (a b : Int) (w : World) :
    Calls Try.prog 52 #[.int .u8 13, .int .i64 a, .int .i64 b] w fun e w' => e = .returned (.tuple #[.int .i64 (doN 13 a b), .int .i64 (doE 13 b)]) ∧ w = w' := by
  by_cases h : a < b
  all_goals
    go_enter Try.func52, Try.ntmps52
    go_wp2
    go_ret2
    exact ⟨by simp [doN, doE, h], rfl⟩
set_option maxHeartbeats 400000 in
theorem code_14 (a b : Int) (w : World) :
    Calls Try.prog 52 #[.int .u8 14, .int .i64 a, .int .i64 b] w fun e w' => e = .returned (.tuple #[.int .i64 (doN 14 a b), .int .i64 (doE 14 b)]) ∧ w = w' := by
  by_cases h : a ≤ b
  all_goals
    go_enter Try.func52, Try.ntmps52
    go_wp2
    go_ret2
    exact ⟨by simp [doN, doE, h], rfl⟩
set_option maxHeartbeats 400000 in
theorem code_else (c a b : Int) (h : c < 1 ∨ 14 < c) (w : World) :
    Calls Try.prog 52 #[.int .u8 c, .int .i64 a, .int .i64 b] w fun e w' => e = .returned (.tuple #[.int .i64 (doN c a b), .int .i64 (doE c b)]) ∧ w = w' := by
  rw [doN_else c a b h, doE_else c b h]
  have h1 : (c == 1) = false := by simp; omega
  have h2 : (c == 2) = false := by simp; omega
  have h3 : (c == 3) = false := by simp; omega
  have h4 : (c == 4) = false := by simp; omega
  have h5 : (c == 5) = false := by simp; omega
  have h6 : (c == 6) = false := by simp; omega
  have h7 : (c == 7) = false := by simp; omega
  have h8 : (c == 8) = false := by simp; omega
  have h9 : (c == 9) = false := by simp; omega
  have h10 : (c == 10) = false := by simp; omega
  have h11 : (c == 11) = false := by simp; omega
  have h12 : (c == 12) = false := by simp; omega
  have h13 : (c == 13) = false := by simp; omega
  have h14 : (c == 14) = false := by simp; omega
  clear h
  go_enter Try.func52, Try.ntmps52
  go_wp2
  go_ret2
  exact ⟨rfl, rfl⟩
/-- At every operation, and at whatever is none. -/
theorem code_any (c a b : Int) (w : World) :
    Calls Try.prog 52 #[.int .u8 c, .int .i64 a, .int .i64 b] w fun e w' => e = .returned (.tuple #[.int .i64 (doN c a b), .int .i64 (doE c b)]) ∧ w = w' := by
  by_cases h : c < 1 ∨ 14 < c
  · exact code_else c a b h w
  have hc : c = 1 ∨ c = 2 ∨ c = 3 ∨ c = 4 ∨ c = 5 ∨ c = 6 ∨ c = 7 ∨ c = 8 ∨ c = 9 ∨ c = 10 ∨ c = 11 ∨ c = 12 ∨ c = 13 ∨ c = 14 := by omega
  clear h
  rcases hc with rfl | rfl | rfl | rfl | rfl | rfl | rfl | rfl | rfl | rfl | rfl | rfl | rfl | rfl
  · exact code_1 a b w
  · exact code_2 a b w
  · exact code_3 a b w
  · by_cases hb : b = 0
    · subst hb; exact code_4z a w
    · exact code_4 a b hb w
  · by_cases hb : b = 0
    · subst hb; exact code_5z a w
    · exact code_5 a b hb w
  · exact code_6 a b w
  · exact code_7 a b w
  · exact code_8 a b w
  · exact code_9 a b w
  · exact code_10 a b w
  · exact code_11 a b w
  · exact code_12 a b w
  · exact code_13 a b w
  · exact code_14 a b w

end Go.Proofs.Ytijciojipcgiaaa
