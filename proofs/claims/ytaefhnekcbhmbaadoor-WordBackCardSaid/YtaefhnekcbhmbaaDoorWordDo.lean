/- What the word layer's Do, the document's own answer for it, and the helpers of the statements of this layer answer, at every input: each is called and leaves the world as it was. -/
import Derived.Test.YtaefhnekcbhmbaaDoorRows
import Derived.Test.YtaefhnekcbhmbaaDoorWordPlain
import Derived.WalkKit
import Derived.WalkSpells
import Derived.WalkLawsBesides
import Derived.Lib.Hide
namespace Go.Proofs.YtaefhnekcbhmbaaDoor
open Go.RowKit

set_option maxHeartbeats 400000 in
theorem code_1 (a b : Int) (w : World) :
    Calls Tryd.prog 9 #[.int .u8 1, .int .i64 a, .int .i64 b] w fun e w' => e = .returned (.tuple #[.int .i64 (doN 1 a b), .int .i64 (doE 1 b)]) ∧ w = w' := by
  go_enter Tryd.func9, Tryd.ntmps9
  go_wp2
  go_ret2
  exact ⟨by simp [doN, doE], rfl⟩
set_option maxHeartbeats 400000 in
theorem code_2 (a b : Int) (w : World) :
    Calls Tryd.prog 9 #[.int .u8 2, .int .i64 a, .int .i64 b] w fun e w' => e = .returned (.tuple #[.int .i64 (doN 2 a b), .int .i64 (doE 2 b)]) ∧ w = w' := by
  go_enter Tryd.func9, Tryd.ntmps9
  go_wp2
  go_ret2
  exact ⟨by simp [doN, doE], rfl⟩
set_option maxHeartbeats 400000 in
theorem code_3 (a b : Int) (w : World) :
    Calls Tryd.prog 9 #[.int .u8 3, .int .i64 a, .int .i64 b] w fun e w' => e = .returned (.tuple #[.int .i64 (doN 3 a b), .int .i64 (doE 3 b)]) ∧ w = w' := by
  go_enter Tryd.func9, Tryd.ntmps9
  go_wp2
  go_ret2
  exact ⟨by simp [doN, doE], rfl⟩
set_option maxHeartbeats 400000 in
theorem code_4z (a : Int) (w : World) :
    Calls Tryd.prog 9 #[.int .u8 4, .int .i64 a, .int .i64 0] w fun e w' => e = .returned (.tuple #[.int .i64 (doN 4 a 0), .int .i64 (doE 4 0)]) ∧ w = w' := by
  go_enter Tryd.func9, Tryd.ntmps9
  go_wp2
  go_ret2
  exact ⟨by simp [doN, doE], rfl⟩
set_option maxHeartbeats 400000 in
theorem code_4 (a b : Int) (hb : ¬ b = 0) (w : World) :
    Calls Tryd.prog 9 #[.int .u8 4, .int .i64 a, .int .i64 b] w fun e w' => e = .returned (.tuple #[.int .i64 (doN 4 a b), .int .i64 (doE 4 b)]) ∧ w = w' := by
  go_enter Tryd.func9, Tryd.ntmps9
  go_wp2
  go_ret2
  exact ⟨by simp [doN, doE, hb], rfl⟩
set_option maxHeartbeats 400000 in
theorem code_5z (a : Int) (w : World) :
    Calls Tryd.prog 9 #[.int .u8 5, .int .i64 a, .int .i64 0] w fun e w' => e = .returned (.tuple #[.int .i64 (doN 5 a 0), .int .i64 (doE 5 0)]) ∧ w = w' := by
  go_enter Tryd.func9, Tryd.ntmps9
  go_wp2
  go_ret2
  exact ⟨by simp [doN, doE], rfl⟩
set_option maxHeartbeats 400000 in
theorem code_5 (a b : Int) (hb : ¬ b = 0) (w : World) :
    Calls Tryd.prog 9 #[.int .u8 5, .int .i64 a, .int .i64 b] w fun e w' => e = .returned (.tuple #[.int .i64 (doN 5 a b), .int .i64 (doE 5 b)]) ∧ w = w' := by
  go_enter Tryd.func9, Tryd.ntmps9
  go_wp2
  go_ret2
  exact ⟨by simp [doN, doE, hb], rfl⟩
set_option maxHeartbeats 400000 in
theorem code_6 (a b : Int) (w : World) :
    Calls Tryd.prog 9 #[.int .u8 6, .int .i64 a, .int .i64 b] w fun e w' => e = .returned (.tuple #[.int .i64 (doN 6 a b), .int .i64 (doE 6 b)]) ∧ w = w' := by
  go_enter Tryd.func9, Tryd.ntmps9
  go_wp2
  go_ret2
  exact ⟨by simp [doN, doE], rfl⟩
set_option maxHeartbeats 400000 in
theorem code_7 (a b : Int) (w : World) :
    Calls Tryd.prog 9 #[.int .u8 7, .int .i64 a, .int .i64 b] w fun e w' => e = .returned (.tuple #[.int .i64 (doN 7 a b), .int .i64 (doE 7 b)]) ∧ w = w' := by
  go_enter Tryd.func9, Tryd.ntmps9
  go_wp2
  go_ret2
  exact ⟨by simp [doN, doE], rfl⟩
set_option maxHeartbeats 400000 in
theorem code_8 (a b : Int) (w : World) :
    Calls Tryd.prog 9 #[.int .u8 8, .int .i64 a, .int .i64 b] w fun e w' => e = .returned (.tuple #[.int .i64 (doN 8 a b), .int .i64 (doE 8 b)]) ∧ w = w' := by
  go_enter Tryd.func9, Tryd.ntmps9
  go_wp2
  go_ret2
  exact ⟨by simp [doN, doE], rfl⟩
set_option maxHeartbeats 400000 in
theorem code_9 (a b : Int) (w : World) :
    Calls Tryd.prog 9 #[.int .u8 9, .int .i64 a, .int .i64 b] w fun e w' => e = .returned (.tuple #[.int .i64 (doN 9 a b), .int .i64 (doE 9 b)]) ∧ w = w' := by
  go_enter Tryd.func9, Tryd.ntmps9
  go_wp2
  go_ret2
  exact ⟨by simp [doN, doE, moves], rfl⟩
set_option maxHeartbeats 400000 in
theorem code_10 (a b : Int) (w : World) :
    Calls Tryd.prog 9 #[.int .u8 10, .int .i64 a, .int .i64 b] w fun e w' => e = .returned (.tuple #[.int .i64 (doN 10 a b), .int .i64 (doE 10 b)]) ∧ w = w' := by
  go_enter Tryd.func9, Tryd.ntmps9
  go_wp2
  go_ret2
  exact ⟨by simp [doN, doE, moves], rfl⟩
set_option maxHeartbeats 400000 in
theorem code_11 (a b : Int) (w : World) :
    Calls Tryd.prog 9 #[.int .u8 11, .int .i64 a, .int .i64 b] w fun e w' => e = .returned (.tuple #[.int .i64 (doN 11 a b), .int .i64 (doE 11 b)]) ∧ w = w' := by
  by_cases h : a = b
  all_goals
    go_enter Tryd.func9, Tryd.ntmps9
    go_wp2
    go_ret2
    exact ⟨by simp [doN, doE, h], rfl⟩
set_option maxHeartbeats 400000 in
theorem code_12 (a b : Int) (w : World) :
    Calls Tryd.prog 9 #[.int .u8 12, .int .i64 a, .int .i64 b] w fun e w' => e = .returned (.tuple #[.int .i64 (doN 12 a b), .int .i64 (doE 12 b)]) ∧ w = w' := by
  by_cases h : a = b
  all_goals
    go_enter Tryd.func9, Tryd.ntmps9
    go_wp2
    go_ret2
    exact ⟨by simp [doN, doE, h], rfl⟩
set_option maxHeartbeats 400000 in
theorem code_13 (a b : Int) (w : World) :
    Calls Tryd.prog 9 #[.int .u8 13, .int .i64 a, .int .i64 b] w fun e w' => e = .returned (.tuple #[.int .i64 (doN 13 a b), .int .i64 (doE 13 b)]) ∧ w = w' := by
  by_cases h : a < b
  all_goals
    go_enter Tryd.func9, Tryd.ntmps9
    go_wp2
    go_ret2
    exact ⟨by simp [doN, doE, h], rfl⟩
set_option maxHeartbeats 400000 in
theorem code_14 (a b : Int) (w : World) :
    Calls Tryd.prog 9 #[.int .u8 14, .int .i64 a, .int .i64 b] w fun e w' => e = .returned (.tuple #[.int .i64 (doN 14 a b), .int .i64 (doE 14 b)]) ∧ w = w' := by
  by_cases h : a ≤ b
  all_goals
    go_enter Tryd.func9, Tryd.ntmps9
    go_wp2
    go_ret2
    exact ⟨by simp [doN, doE, h], rfl⟩
set_option maxHeartbeats 400000 in
theorem code_else (c a b : Int) (h : c < 1 ∨ 14 < c) (w : World) :
    Calls Tryd.prog 9 #[.int .u8 c, .int .i64 a, .int .i64 b] w fun e w' => e = .returned (.tuple #[.int .i64 (doN c a b), .int .i64 (doE c b)]) ∧ w = w' := by
  rw [doN_else c a b h, doE_else c b h]
  have h1 : (c == 1) = false := by simp; omega
  have h2 : (c == 2) = false := by simp; omega
  have h3 : (c == 3) = false := by simp; omega
  have h4 : (c == 4) = false := by simp; omega
  have h5 : (c == 5) = false := by simp; omega
  have h6 : (c == 6) = false := by simp; omega
  have h7 : (c == 7) = false := by simp; omega
  have h8 : (c == 8) = false := by simp; omega
  have h9 : (c == 9) = false := by simp; omega
  have h10 : (c == 10) = false := by simp; omega
  have h11 : (c == 11) = false := by simp; omega
  have h12 : (c == 12) = false := by simp; omega
  have h13 : (c == 13) = false := by simp; omega
  have h14 : (c == 14) = false := by simp; omega
  clear h
  go_enter Tryd.func9, Tryd.ntmps9
  go_wp2
  go_ret2
  exact ⟨rfl, rfl⟩
/-- At every operation, and at whatever is none. -/
theorem code_any (c a b : Int) (w : World) :
    Calls Tryd.prog 9 #[.int .u8 c, .int .i64 a, .int .i64 b] w fun e w' => e = .returned (.tuple #[.int .i64 (doN c a b), .int .i64 (doE c b)]) ∧ w = w' := by
  by_cases h : c < 1 ∨ 14 < c
  · exact code_else c a b h w
  have hc : c = 1 ∨ c = 2 ∨ c = 3 ∨ c = 4 ∨ c = 5 ∨ c = 6 ∨ c = 7 ∨ c = 8 ∨ c = 9 ∨ c = 10 ∨ c = 11 ∨ c = 12 ∨ c = 13 ∨ c = 14 := by omega
  clear h
  rcases hc with rfl | rfl | rfl | rfl | rfl | rfl | rfl | rfl | rfl | rfl | rfl | rfl | rfl | rfl
  · exact code_1 a b w
  · exact code_2 a b w
  · exact code_3 a b w
  · by_cases hb : b = 0
    · subst hb; exact code_4z a w
    · exact code_4 a b hb w
  · by_cases hb : b = 0
    · subst hb; exact code_5z a w
    · exact code_5 a b hb w
  · exact code_6 a b w
  · exact code_7 a b w
  · exact code_8 a b w
  · exact code_9 a b w
  · exact code_10 a b w
  · exact code_11 a b w
  · exact code_12 a b w
  · exact code_13 a b w
  · exact code_14 a b w

set_option maxHeartbeats 400000 in
theorem asks_1 (a b : Int) (w : World) :
    Calls Tryd.prog 10 #[.int .u8 1, .int .i64 a, .int .i64 b] w fun e w' => e = .returned (.tuple #[.int .i64 (doN 1 a b), .int .i64 (doE 1 b)]) ∧ w = w' := by
  go_enter Tryd.func10, Tryd.ntmps10
  go_wp2
  go_ret2
  exact ⟨by simp [doN, doE, u64_add], rfl⟩
set_option maxHeartbeats 400000 in
theorem asks_2 (a b : Int) (w : World) :
    Calls Tryd.prog 10 #[.int .u8 2, .int .i64 a, .int .i64 b] w fun e w' => e = .returned (.tuple #[.int .i64 (doN 2 a b), .int .i64 (doE 2 b)]) ∧ w = w' := by
  go_enter Tryd.func10, Tryd.ntmps10
  go_wp2
  go_ret2
  exact ⟨by simp [doN, doE, u64_sub], rfl⟩
set_option maxHeartbeats 400000 in
theorem asks_3 (a b : Int) (w : World) :
    Calls Tryd.prog 10 #[.int .u8 3, .int .i64 a, .int .i64 b] w fun e w' => e = .returned (.tuple #[.int .i64 (doN 3 a b), .int .i64 (doE 3 b)]) ∧ w = w' := by
  go_enter Tryd.func10, Tryd.ntmps10
  go_wp2
  go_ret2
  exact ⟨by simp [doN, doE, u64_mul], rfl⟩
set_option maxHeartbeats 400000 in
theorem asks_4z (a : Int) (w : World) :
    Calls Tryd.prog 10 #[.int .u8 4, .int .i64 a, .int .i64 0] w fun e w' => e = .returned (.tuple #[.int .i64 (doN 4 a 0), .int .i64 (doE 4 0)]) ∧ w = w' := by
  go_enter Tryd.func10, Tryd.ntmps10
  go_wp2
  go_ret2
  exact ⟨by simp [doN, doE], rfl⟩
set_option maxHeartbeats 400000 in
theorem asks_4l (a b : Int) (ha : a = -9223372036854775808) (hm : b = -1) (hb : ¬ b = 0) (w : World) :
    Calls Tryd.prog 10 #[.int .u8 4, .int .i64 a, .int .i64 b] w fun e w' => e = .returned (.tuple #[.int .i64 (doN 4 a b), .int .i64 (doE 4 b)]) ∧ w = w' := by
  subst ha; subst hm
  go_enter Tryd.func10, Tryd.ntmps10
  go_wp2
  go_ret2
  exact ⟨by rw [least_4]; rfl, rfl⟩
set_option maxHeartbeats 400000 in
theorem asks_4n (a b : Int) (ha : ¬ a = -9223372036854775808) (hb : ¬ b = 0) (w : World) :
    Calls Tryd.prog 10 #[.int .u8 4, .int .i64 a, .int .i64 b] w fun e w' => e = .returned (.tuple #[.int .i64 (doN 4 a b), .int .i64 (doE 4 b)]) ∧ w = w' := by
  go_enter Tryd.func10, Tryd.ntmps10
  go_wp2
  go_ret2
  exact ⟨by simp [doN, doE, hb], rfl⟩
set_option maxHeartbeats 400000 in
theorem asks_4m (a b : Int) (ha : a = -9223372036854775808) (hm : ¬ b = -1) (hb : ¬ b = 0) (w : World) :
    Calls Tryd.prog 10 #[.int .u8 4, .int .i64 a, .int .i64 b] w fun e w' => e = .returned (.tuple #[.int .i64 (doN 4 a b), .int .i64 (doE 4 b)]) ∧ w = w' := by
  subst ha
  go_enter Tryd.func10, Tryd.ntmps10
  go_wp2
  go_ret2
  exact ⟨by simp [doN, doE, hb], rfl⟩
set_option maxHeartbeats 400000 in
theorem asks_5z (a : Int) (w : World) :
    Calls Tryd.prog 10 #[.int .u8 5, .int .i64 a, .int .i64 0] w fun e w' => e = .returned (.tuple #[.int .i64 (doN 5 a 0), .int .i64 (doE 5 0)]) ∧ w = w' := by
  go_enter Tryd.func10, Tryd.ntmps10
  go_wp2
  go_ret2
  exact ⟨by simp [doN, doE], rfl⟩
set_option maxHeartbeats 400000 in
theorem asks_5l (a b : Int) (ha : a = -9223372036854775808) (hm : b = -1) (hb : ¬ b = 0) (w : World) :
    Calls Tryd.prog 10 #[.int .u8 5, .int .i64 a, .int .i64 b] w fun e w' => e = .returned (.tuple #[.int .i64 (doN 5 a b), .int .i64 (doE 5 b)]) ∧ w = w' := by
  subst ha; subst hm
  go_enter Tryd.func10, Tryd.ntmps10
  go_wp2
  go_ret2
  exact ⟨by rfl, rfl⟩
set_option maxHeartbeats 400000 in
theorem asks_5n (a b : Int) (ha : ¬ a = -9223372036854775808) (hb : ¬ b = 0) (w : World) :
    Calls Tryd.prog 10 #[.int .u8 5, .int .i64 a, .int .i64 b] w fun e w' => e = .returned (.tuple #[.int .i64 (doN 5 a b), .int .i64 (doE 5 b)]) ∧ w = w' := by
  go_enter Tryd.func10, Tryd.ntmps10
  go_wp2
  go_ret2
  exact ⟨by simp [doN, doE, hb], rfl⟩
set_option maxHeartbeats 400000 in
theorem asks_5m (a b : Int) (ha : a = -9223372036854775808) (hm : ¬ b = -1) (hb : ¬ b = 0) (w : World) :
    Calls Tryd.prog 10 #[.int .u8 5, .int .i64 a, .int .i64 b] w fun e w' => e = .returned (.tuple #[.int .i64 (doN 5 a b), .int .i64 (doE 5 b)]) ∧ w = w' := by
  subst ha
  go_enter Tryd.func10, Tryd.ntmps10
  go_wp2
  go_ret2
  exact ⟨by simp [doN, doE, hb, Int.tmod_eq_emod_of_nonneg], rfl⟩
set_option maxHeartbeats 400000 in
theorem asks_6 (a b : Int) (w : World) :
    Calls Tryd.prog 10 #[.int .u8 6, .int .i64 a, .int .i64 b] w fun e w' => e = .returned (.tuple #[.int .i64 (doN 6 a b), .int .i64 (doE 6 b)]) ∧ w = w' := by
  go_enter Tryd.func10, Tryd.ntmps10
  go_wp2
  go_ret2
  exact ⟨by simp [doN, doE], rfl⟩
set_option maxHeartbeats 400000 in
theorem asks_7 (a b : Int) (w : World) :
    Calls Tryd.prog 10 #[.int .u8 7, .int .i64 a, .int .i64 b] w fun e w' => e = .returned (.tuple #[.int .i64 (doN 7 a b), .int .i64 (doE 7 b)]) ∧ w = w' := by
  go_enter Tryd.func10, Tryd.ntmps10
  go_wp2
  go_ret2
  exact ⟨by simp [doN, doE], rfl⟩
set_option maxHeartbeats 400000 in
theorem asks_8 (a b : Int) (w : World) :
    Calls Tryd.prog 10 #[.int .u8 8, .int .i64 a, .int .i64 b] w fun e w' => e = .returned (.tuple #[.int .i64 (doN 8 a b), .int .i64 (doE 8 b)]) ∧ w = w' := by
  go_enter Tryd.func10, Tryd.ntmps10
  go_wp2
  go_ret2
  exact ⟨by simp [doN, doE], rfl⟩
set_option maxHeartbeats 400000 in
theorem asks_9 (a b : Int) (w : World) :
    Calls Tryd.prog 10 #[.int .u8 9, .int .i64 a, .int .i64 b] w fun e w' => e = .returned (.tuple #[.int .i64 (doN 9 a b), .int .i64 (doE 9 b)]) ∧ w = w' := by
  go_enter Tryd.func10, Tryd.ntmps10
  go_wp2
  go_ret2
  exact ⟨by simp [doN, doE, moves], rfl⟩
set_option maxHeartbeats 400000 in
theorem asks_10 (a b : Int) (w : World) :
    Calls Tryd.prog 10 #[.int .u8 10, .int .i64 a, .int .i64 b] w fun e w' => e = .returned (.tuple #[.int .i64 (doN 10 a b), .int .i64 (doE 10 b)]) ∧ w = w' := by
  go_enter Tryd.func10, Tryd.ntmps10
  go_wp2
  go_ret2
  exact ⟨by simp [doN, doE, moves], rfl⟩
set_option maxHeartbeats 400000 in
theorem asks_11 (a b : Int) (w : World) :
    Calls Tryd.prog 10 #[.int .u8 11, .int .i64 a, .int .i64 b] w fun e w' => e = .returned (.tuple #[.int .i64 (doN 11 a b), .int .i64 (doE 11 b)]) ∧ w = w' := by
  by_cases h : a = b
  all_goals
    go_enter Tryd.func10, Tryd.ntmps10
    go_wp2
    go_ret2
    exact ⟨by simp [doN, doE, h], rfl⟩
set_option maxHeartbeats 400000 in
theorem asks_12 (a b : Int) (w : World) :
    Calls Tryd.prog 10 #[.int .u8 12, .int .i64 a, .int .i64 b] w fun e w' => e = .returned (.tuple #[.int .i64 (doN 12 a b), .int .i64 (doE 12 b)]) ∧ w = w' := by
  by_cases h : a = b
  all_goals
    go_enter Tryd.func10, Tryd.ntmps10
    go_wp2
    go_ret2
    exact ⟨by simp [doN, doE, h], rfl⟩
set_option maxHeartbeats 400000 in
theorem asks_13 (a b : Int) (w : World) :
    Calls Tryd.prog 10 #[.int .u8 13, .int .i64 a, .int .i64 b] w fun e w' => e = .returned (.tuple #[.int .i64 (doN 13 a b), .int .i64 (doE 13 b)]) ∧ w = w' := by
  by_cases h : a < b
  all_goals
    go_enter Tryd.func10, Tryd.ntmps10
    go_wp2
    go_ret2
    exact ⟨by simp [doN, doE, h], rfl⟩
set_option maxHeartbeats 400000 in
theorem asks_14 (a b : Int) (w : World) :
    Calls Tryd.prog 10 #[.int .u8 14, .int .i64 a, .int .i64 b] w fun e w' => e = .returned (.tuple #[.int .i64 (doN 14 a b), .int .i64 (doE 14 b)]) ∧ w = w' := by
  by_cases h : a ≤ b
  all_goals
    go_enter Tryd.func10, Tryd.ntmps10
    go_wp2
    go_ret2
    exact ⟨by simp [doN, doE, h], rfl⟩
set_option maxHeartbeats 400000 in
theorem asks_else (c a b : Int) (h : c < 1 ∨ 14 < c) (w : World) :
    Calls Tryd.prog 10 #[.int .u8 c, .int .i64 a, .int .i64 b] w fun e w' => e = .returned (.tuple #[.int .i64 (doN c a b), .int .i64 (doE c b)]) ∧ w = w' := by
  rw [doN_else c a b h, doE_else c b h]
  have h1 : (c == 1) = false := by simp; omega
  have h2 : (c == 2) = false := by simp; omega
  have h3 : (c == 3) = false := by simp; omega
  have h4 : (c == 4) = false := by simp; omega
  have h5 : (c == 5) = false := by simp; omega
  have h6 : (c == 6) = false := by simp; omega
  have h7 : (c == 7) = false := by simp; omega
  have h8 : (c == 8) = false := by simp; omega
  have h9 : (c == 9) = false := by simp; omega
  have h10 : (c == 10) = false := by simp; omega
  have h11 : (c == 11) = false := by simp; omega
  have h12 : (c == 12) = false := by simp; omega
  have h13 : (c == 13) = false := by simp; omega
  have h14 : (c == 14) = false := by simp; omega
  clear h
  go_enter Tryd.func10, Tryd.ntmps10
  go_wp2
  go_ret2
  exact ⟨rfl, rfl⟩
/-- At every operation, and at whatever is none. -/
theorem asks_any (c a b : Int) (w : World) :
    Calls Tryd.prog 10 #[.int .u8 c, .int .i64 a, .int .i64 b] w fun e w' => e = .returned (.tuple #[.int .i64 (doN c a b), .int .i64 (doE c b)]) ∧ w = w' := by
  by_cases h : c < 1 ∨ 14 < c
  · exact asks_else c a b h w
  have hc : c = 1 ∨ c = 2 ∨ c = 3 ∨ c = 4 ∨ c = 5 ∨ c = 6 ∨ c = 7 ∨ c = 8 ∨ c = 9 ∨ c = 10 ∨ c = 11 ∨ c = 12 ∨ c = 13 ∨ c = 14 := by omega
  clear h
  rcases hc with rfl | rfl | rfl | rfl | rfl | rfl | rfl | rfl | rfl | rfl | rfl | rfl | rfl | rfl
  · exact asks_1 a b w
  · exact asks_2 a b w
  · exact asks_3 a b w
  · by_cases hb : b = 0
    · subst hb; exact asks_4z a w
    · by_cases ha : a = -9223372036854775808
      · by_cases hm : b = -1
        · exact asks_4l a b ha hm hb w
        · exact asks_4m a b ha hm hb w
      · exact asks_4n a b ha hb w
  · by_cases hb : b = 0
    · subst hb; exact asks_5z a w
    · by_cases ha : a = -9223372036854775808
      · by_cases hm : b = -1
        · exact asks_5l a b ha hm hb w
        · exact asks_5m a b ha hm hb w
      · exact asks_5n a b ha hb w
  · exact asks_6 a b w
  · exact asks_7 a b w
  · exact asks_8 a b w
  · exact asks_9 a b w
  · exact asks_10 a b w
  · exact asks_11 a b w
  · exact asks_12 a b w
  · exact asks_13 a b w
  · exact asks_14 a b w

theorem setCell_back (w : World) (p : Addr) (v : Value) (hc : w.cell? p = some v) : w.setCell p v = w := by
  unfold World.cell? at hc
  have e : (w.setCell p v).heap = w.heap := by
    unfold World.setCell
    apply Array.ext
    · simp
    · intro i h1 h2
      rw [Array.getElem_modify]
      split
      · rename_i hi
        subst hi
        rw [Array.getElem?_eq_getElem h2] at hc
        cases ho : w.heap[p.block] with
        | cells c elem frozen =>
          rw [ho] at hc
          simp only at hc ⊢
          by_cases hs : p.spot.isSome = true
          · rw [if_pos hs] at hc; cases hc
          · rw [if_neg hs] at hc ⊢
            congr 1
            apply Array.ext
            · simp
            · intro j g1 g2
              rw [Array.getElem_setIfInBounds]
              split
              · rename_i hj
                subst hj
                rw [Array.getElem?_eq_getElem g2] at hc
                exact (Option.some.inj hc).symm
              · rfl
        | _ => rfl
      · rfl
  have e2 : w.setCell p v = { w with heap := (w.setCell p v).heap } := rfl
  rw [e2, e]

set_option maxHeartbeats 400000 in
theorem do_any (c a b v : Int) (p : Addr) (w : World) (hc : w.cell? p = some (.bool true)) (hf : w.frozen? p = false) (hv : doN c a b = v) (he : doE c b = 0) :
    Calls Tryd.prog 16 #[.int .u8 c, .int .i64 a, .int .i64 b, .pointer (some p)] w fun e w' => e = .returned (.int .i64 v) ∧ w = w' := by
  have hs := Lib.hid (setCell_back w p (.bool true) hc)
  have hd := fun w => code_any c a b w
  rw [hv, he] at hd
  have Hd := Lib.hid hd
  clear hd hv he
  go_enter Tryd.func16, Tryd.ntmps16
  go_wp2_with (go_at_call 9; refine (Hd.out _).mono ?_; rintro e w' ⟨rfl, rfl⟩)
  rw [hs.out]
  go_ret
  exact ⟨rfl, rfl⟩

set_option maxHeartbeats 400000 in
theorem size_any (n : Int) (h0 : -9223372036854775808 ≤ n) (h1 : n ≤ 9223372036854775807) (w : World) :
    Calls Tryd.prog 17 #[.int .i64 n] w fun e w' => e = .returned (.int .u64 (n.natAbs : Int)) ∧ w = w' := by
  by_cases h : n < 0
  · go_enter Tryd.func17, Tryd.ntmps17
    go_wp2
    go_ret
    exact ⟨congrArg (fun x => Ending.returned (Value.int IntKind.u64 x)) (size_neg n h0 h), rfl⟩
  · go_enter Tryd.func17, Tryd.ntmps17
    go_wp2
    go_ret
    exact ⟨congrArg (fun x => Ending.returned (Value.int IntKind.u64 x)) (by omega), rfl⟩
end Go.Proofs.YtaefhnekcbhmbaaDoor
