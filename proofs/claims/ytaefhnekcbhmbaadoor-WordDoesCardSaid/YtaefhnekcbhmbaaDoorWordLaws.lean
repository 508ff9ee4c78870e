/- Four statements of the word layer, each called at any input in any world in which the library's variables read as laid: each answers true and changes nothing that was there. -/
import Derived.Test.YtaefhnekcbhmbaaDoorRows
import Derived.Test.YtaefhnekcbhmbaaDoorWordText
import Derived.WalkKit
import Derived.WalkSpells
import Derived.WalkLawsBesides
import Derived.Lib.Hide
namespace Go.Proofs.YtaefhnekcbhmbaaDoor
open Go.RowKit

theorem code_is (c a b v f : Int) (hv : doN c a b = v) (he : doE c b = f) (w : World) :
    Calls Tryd.prog 9 #[.int .u8 c, .int .i64 a, .int .i64 b] w fun e w' => e = .returned (.tuple #[.int .i64 v, .int .i64 f]) ∧ w = w' := by
  subst hv; subst he; exact code_any c a b w

theorem new_cell (w : World) (v : Value) (t : TypeId) : (w.alloc (.cells #[v] t)).cell? ⟨w.heap.size, 0, none⟩ = some v := by
  go_simp
theorem new_free (w : World) (v : Value) (t : TypeId) : (w.alloc (.cells #[v] t)).frozen? ⟨w.heap.size, 0, none⟩ = false := by
  go_simp
theorem Good.alloc {w : World} (hG : Good w) (o : Obj) : Good (w.alloc o) := hG.keeps ((Below.refl _ _).alloc (Nat.le_refl _) o)
theorem below_alloc {w w' : World} {o : Obj} (hb : Below (w.alloc o).heap.size (w.alloc o) w') : Below w.heap.size w w' :=
  ((Below.refl _ _).alloc (Nat.le_refl _) o).trans (hb.mono (by simp))

/-- An operation that is not refused, with a fresh cell that holds true. -/
theorem do_new (c a b v : Int) (w : World) (hv : doN c a b = v) (he : doE c b = 0) :
    Calls Tryd.prog 16 #[.int .u8 c, .int .i64 a, .int .i64 b, .pointer (some ⟨w.heap.size, 0, none⟩)] (w.alloc (.cells #[.bool true] 4)) fun e w' => e = .returned (.int .i64 v) ∧ w.alloc (.cells #[.bool true] 4) = w' :=
  do_any c a b v _ _ (new_cell _ _ _) (new_free _ _ _) hv he

theorem fine (c b : Int) (h : (decide (1 ≤ c) && decide (c ≤ 14) && !decide (c = 4) && !decide (c = 5)) = true) : doE c b = 0 := by
  simp at h
  exact doE_fine c b h.1.1.1 h.1.1.2 (Or.inr (by omega))

set_option maxHeartbeats 400000 in
theorem ring_any (a b c : Int) (h0 : -9223372036854775808 ≤ a) (h1 : a ≤ 9223372036854775807) (w : World) (hG : Good w) :
    Calls Tryd.prog 5 #[.int .i64 a, .int .i64 b, .int .i64 c] w fun e w' => e = .returned (.bool true) ∧ Below w.heap.size w w' := by
  have e1 : (doN 1 (doN 1 a b) c == doN 1 b (doN 1 c a)) = true := beq_iff_eq.2 (ring_sum a b c)
  have e2 : (doN 2 (doN 1 a b) b == a) = true := beq_iff_eq.2 (ring_back a b h0 h1)
  have e3 : (doN 3 (doN 3 a b) c == doN 3 b (doN 3 c a)) = true := beq_iff_eq.2 (ring_product a b c)
  have e4 : (doN 3 a (doN 1 b c) == doN 1 (doN 3 a b) (doN 3 a c)) = true := beq_iff_eq.2 (ring_through a b c)
  clear h0 h1
  go_enter Tryd.func5, Tryd.ntmps5
  go_wp2_with (first | (go_at_call 16; refine (do_new _ _ _ _ _ rfl (fine _ _ rfl)).mono ?_; rintro e w' ⟨rfl, rfl⟩) | (go_at_call 11; refine (alive_any _ (hG.alloc _)).mono ?_; rintro e w' ⟨rfl, hb⟩))
  go_ret
  exact ⟨rfl, below_alloc hb⟩

set_option maxHeartbeats 400000 in
theorem does_any (c a b : Int) (w : World) (hG : Good w) :
    Calls Tryd.prog 3 #[.int .u8 c, .int .i64 a, .int .i64 b] w fun e w' => e = .returned (.bool true) ∧ Below w.heap.size w w' := by
  go_enter Tryd.func3, Tryd.ntmps3
  go_wp2_with (first | (go_at_call 9; refine (code_any _ _ _ _).mono ?_; rintro e w' ⟨rfl, rfl⟩) | (go_at_call 10; refine (asks_any _ _ _ _).mono ?_; rintro e w' ⟨rfl, rfl⟩) | (go_at_call 11; refine (alive_any _ hG).mono ?_; rintro e w' ⟨rfl, hb⟩))
  go_ret
  exact ⟨rfl, hb⟩

set_option maxHeartbeats 400000 in
theorem divides_none (a : Int) (w : World) (hG : Good w) :
    Calls Tryd.prog 6 #[.int .i64 a, .int .i64 0] w fun e w' => e = .returned (.bool true) ∧ Below w.heap.size w w' := by
  go_enter Tryd.func6, Tryd.ntmps6
  go_wp2_with fail
  refine (code_is 4 a 0 0 4 (doN_4z a) rfl _).mono ?_; rintro e w' ⟨rfl, rfl⟩
  go_wp2_with fail
  refine (code_is 5 a 0 0 4 (doN_5z a) rfl _).mono ?_; rintro e w' ⟨rfl, rfl⟩
  go_wp2_with fail
  refine (alive_any _ hG).mono ?_; rintro e w' ⟨rfl, hb⟩
  go_wp2_with fail
  go_ret
  exact ⟨rfl, hb⟩

set_option maxHeartbeats 400000 in
theorem divides_some (a b q m : Int) (hb : ¬ b = 0) (hq : doN 4 a b = q) (hm : doN 5 a b = m) (h0 : -9223372036854775808 ≤ a) (h1 : a ≤ 9223372036854775807) (b0 : -9223372036854775808 ≤ b) (b1 : b ≤ 9223372036854775807) (w : World) (hG : Good w) :
    Calls Tryd.prog 6 #[.int .i64 a, .int .i64 b] w fun e w' => e = .returned (.bool true) ∧ Below w.heap.size w w' := by
  have hag := again a b hb h0 h1
  have hle := left_lesser a b hb
  have hsi := left_sign a b hb
  have hwi := left_within a b hb h0 h1
  rw [hq, hm] at hag
  rw [hm] at hle hsi hwi
  have Hq := Lib.hid (code_is 4 a b q 0 hq (doE_fine _ _ (by decide) (by decide) (Or.inl hb)))
  have Hm := Lib.hid (code_is 5 a b m 0 hm (doE_fine _ _ (by decide) (by decide) (Or.inl hb)))
  have Hx := Lib.hid (do_new 3 b q (doN 3 b q) w rfl (fine _ _ rfl))
  have Hy := Lib.hid (do_new 1 (doN 3 b q) m a w hag (fine _ _ rfl))
  have Hs := Lib.hid (size_any m hwi.1 hwi.2)
  have Ht := Lib.hid (size_any b b0 b1)
  have hbz : (b == 0) = false := beq_eq_false_iff_ne.2 hb
  have hmz : m = 0 ∨ (m == 0) = false ∧ (decide (m < 0) == decide (a < 0)) = true := by
    by_cases z : m = 0
    · exact .inl z
    · exact .inr ⟨beq_eq_false_iff_ne.2 z, beq_iff_eq.2 (decide_eq_decide.2 (hsi z))⟩
  have hln : m.natAbs < b.natAbs := by omega
  clear hag hsi hwi hq hm h0 h1 b0 b1 hle
  rcases hmz with rfl | ⟨z1, z2⟩
  all_goals
    go_enter Tryd.func6, Tryd.ntmps6
    go_wp2_with fail
    refine (Hq.out _).mono ?_; rintro e w' ⟨rfl, rfl⟩
    go_wp2_with fail
    refine (Hm.out _).mono ?_; rintro e w' ⟨rfl, rfl⟩
    go_wp2_with fail
    refine Hx.out.mono ?_; rintro e w' ⟨rfl, rfl⟩
    go_wp2_with fail
    refine Hy.out.mono ?_; rintro e w' ⟨rfl, rfl⟩
    go_wp2_with fail
    refine (Hs.out _).mono ?_; rintro e w' ⟨rfl, rfl⟩
    go_wp2_with fail
    refine (Ht.out _).mono ?_; rintro e w' ⟨rfl, rfl⟩
    go_wp2_with fail
    refine (alive_any _ (hG.alloc _)).mono ?_; rintro e w' ⟨rfl, hb⟩
    go_wp2_with fail
    go_ret
    exact ⟨rfl, below_alloc hb⟩

set_option maxHeartbeats 400000 in
theorem asks_below (a b c : Int) (h : a < b) (w : World) (hG : Good w) :
    Calls Tryd.prog 7 #[.int .i64 a, .int .i64 b, .int .i64 c] w fun e w' => e = .returned (.bool true) ∧ Below w.heap.size w w' := by
  have H1 := Lib.hid (do_new 11 a b 0 w (by rw [doN_11, if_neg (by omega)]) (fine _ _ rfl))
  have H2 := Lib.hid (do_new 12 a b 1 w (by rw [doN_12, if_neg (by omega)]) (fine _ _ rfl))
  have H3 := Lib.hid (do_new 13 a b 1 w (by rw [doN_13, if_pos (by omega)]) (fine _ _ rfl))
  have H4 := Lib.hid (do_new 14 b a 0 w (by rw [doN_14, if_neg (by omega)]) (fine _ _ rfl))
  have H5 := Lib.hid (do_new 14 a b 1 w (by rw [doN_14, if_pos (by omega)]) (fine _ _ rfl))
  have hab : (a == b) = false := beq_eq_false_iff_ne.2 (by omega)
  by_cases g : b ≤ c
  · have H6 := Lib.hid (do_new 14 b c 1 w (by rw [doN_14, if_pos (by omega)]) (fine _ _ rfl))
    have H7 := Lib.hid (do_new 14 a c 1 w (by rw [doN_14, if_pos (by omega)]) (fine _ _ rfl))
    clear h g
    go_enter Tryd.func7, Tryd.ntmps7
    go_wp2_with fail
    refine H1.out.mono ?_; rintro e w' ⟨rfl, rfl⟩
    go_wp2_with fail
    refine H2.out.mono ?_; rintro e w' ⟨rfl, rfl⟩
    go_wp2_with fail
    refine H3.out.mono ?_; rintro e w' ⟨rfl, rfl⟩
    go_wp2_with fail
    refine H4.out.mono ?_; rintro e w' ⟨rfl, rfl⟩
    go_wp2_with fail
    refine H5.out.mono ?_; rintro e w' ⟨rfl, rfl⟩
    go_wp2_with fail
    refine H6.out.mono ?_; rintro e w' ⟨rfl, rfl⟩
    go_wp2_with fail
    refine H7.out.mono ?_; rintro e w' ⟨rfl, rfl⟩
    go_wp2_with fail
    refine (alive_any _ (hG.alloc _)).mono ?_; rintro e w' ⟨rfl, hb⟩
    go_wp2_with fail
    go_ret
    exact ⟨rfl, below_alloc hb⟩
  · have H6 := Lib.hid (do_new 14 b c 0 w (by rw [doN_14, if_neg (by omega)]) (fine _ _ rfl))
    clear h g
    go_enter Tryd.func7, Tryd.ntmps7
    go_wp2_with fail
    refine H1.out.mono ?_; rintro e w' ⟨rfl, rfl⟩
    go_wp2_with fail
    refine H2.out.mono ?_; rintro e w' ⟨rfl, rfl⟩
    go_wp2_with fail
    refine H3.out.mono ?_; rintro e w' ⟨rfl, rfl⟩
    go_wp2_with fail
    refine H4.out.mono ?_; rintro e w' ⟨rfl, rfl⟩
    go_wp2_with fail
    refine H5.out.mono ?_; rintro e w' ⟨rfl, rfl⟩
    go_wp2_with fail
    refine H6.out.mono ?_; rintro e w' ⟨rfl, rfl⟩
    go_wp2_with fail
    refine (alive_any _ (hG.alloc _)).mono ?_; rintro e w' ⟨rfl, hb⟩
    go_wp2_with fail
    go_ret
    exact ⟨rfl, below_alloc hb⟩

set_option maxHeartbeats 400000 in
theorem asks_same (a c : Int) (w : World) (hG : Good w) :
    Calls Tryd.prog 7 #[.int .i64 a, .int .i64 a, .int .i64 c] w fun e w' => e = .returned (.bool true) ∧ Below w.heap.size w w' := by
  have H1 := Lib.hid (do_new 11 a a 1 w (by rw [doN_11, if_pos rfl]) (fine _ _ rfl))
  have H2 := Lib.hid (do_new 12 a a 0 w (by rw [doN_12, if_pos rfl]) (fine _ _ rfl))
  have H3 := Lib.hid (do_new 13 a a 0 w (by rw [doN_13, if_neg (by omega)]) (fine _ _ rfl))
  have H4 := Lib.hid (do_new 14 a a 1 w (by rw [doN_14, if_pos (by omega)]) (fine _ _ rfl))
  by_cases g : a ≤ c
  · have H6 := Lib.hid (do_new 14 a c 1 w (by rw [doN_14, if_pos (by omega)]) (fine _ _ rfl))
    clear g
    go_enter Tryd.func7, Tryd.ntmps7
    go_wp2_with fail
    refine H1.out.mono ?_; rintro e w' ⟨rfl, rfl⟩
    go_wp2_with fail
    refine H2.out.mono ?_; rintro e w' ⟨rfl, rfl⟩
    go_wp2_with fail
    refine H3.out.mono ?_; rintro e w' ⟨rfl, rfl⟩
    go_wp2_with fail
    refine H4.out.mono ?_; rintro e w' ⟨rfl, rfl⟩
    go_wp2_with fail
    refine H4.out.mono ?_; rintro e w' ⟨rfl, rfl⟩
    go_wp2_with fail
    refine H6.out.mono ?_; rintro e w' ⟨rfl, rfl⟩
    go_wp2_with fail
    refine H6.out.mono ?_; rintro e w' ⟨rfl, rfl⟩
    go_wp2_with fail
    refine (alive_any _ (hG.alloc _)).mono ?_; rintro e w' ⟨rfl, hb⟩
    go_wp2_with fail
    go_ret
    exact ⟨rfl, below_alloc hb⟩
  · have H6 := Lib.hid (do_new 14 a c 0 w (by rw [doN_14, if_neg (by omega)]) (fine _ _ rfl))
    clear g
    go_enter Tryd.func7, Tryd.ntmps7
    go_wp2_with fail
    refine H1.out.mono ?_; rintro e w' ⟨rfl, rfl⟩
    go_wp2_with fail
    refine H2.out.mono ?_; rintro e w' ⟨rfl, rfl⟩
    go_wp2_with fail
    refine H3.out.mono ?_; rintro e w' ⟨rfl, rfl⟩
    go_wp2_with fail
    refine H4.out.mono ?_; rintro e w' ⟨rfl, rfl⟩
    go_wp2_with fail
    refine H4.out.mono ?_; rintro e w' ⟨rfl, rfl⟩
    go_wp2_with fail
    refine H6.out.mono ?_; rintro e w' ⟨rfl, rfl⟩
    go_wp2_with fail
    refine (alive_any _ (hG.alloc _)).mono ?_; rintro e w' ⟨rfl, hb⟩
    go_wp2_with fail
    go_ret
    exact ⟨rfl, below_alloc hb⟩

set_option maxHeartbeats 400000 in
theorem asks_above (a b c : Int) (h : b < a) (w : World) (hG : Good w) :
    Calls Tryd.prog 7 #[.int .i64 a, .int .i64 b, .int .i64 c] w fun e w' => e = .returned (.bool true) ∧ Below w.heap.size w w' := by
  have H1 := Lib.hid (do_new 11 a b 0 w (by rw [doN_11, if_neg (by omega)]) (fine _ _ rfl))
  have H2 := Lib.hid (do_new 12 a b 1 w (by rw [doN_12, if_neg (by omega)]) (fine _ _ rfl))
  have H3 := Lib.hid (do_new 13 a b 0 w (by rw [doN_13, if_neg (by omega)]) (fine _ _ rfl))
  have H4 := Lib.hid (do_new 14 b a 1 w (by rw [doN_14, if_pos (by omega)]) (fine _ _ rfl))
  have H5 := Lib.hid (do_new 14 a b 0 w (by rw [doN_14, if_neg (by omega)]) (fine _ _ rfl))
  have hab : (a == b) = false := beq_eq_false_iff_ne.2 (by omega)
  clear h
  go_enter Tryd.func7, Tryd.ntmps7
  go_wp2_with fail
  refine H1.out.mono ?_; rintro e w' ⟨rfl, rfl⟩
  go_wp2_with fail
  refine H2.out.mono ?_; rintro e w' ⟨rfl, rfl⟩
  go_wp2_with fail
  refine H3.out.mono ?_; rintro e w' ⟨rfl, rfl⟩
  go_wp2_with fail
  refine H4.out.mono ?_; rintro e w' ⟨rfl, rfl⟩
  go_wp2_with fail
  refine H5.out.mono ?_; rintro e w' ⟨rfl, rfl⟩
  go_wp2_with fail
  refine (alive_any _ (hG.alloc _)).mono ?_; rintro e w' ⟨rfl, hb⟩
  go_wp2_with fail
  go_ret
  exact ⟨rfl, below_alloc hb⟩

theorem asks_law (a b c : Int) (w : World) (hG : Good w) :
    Calls Tryd.prog 7 #[.int .i64 a, .int .i64 b, .int .i64 c] w fun e w' => e = .returned (.bool true) ∧ Below w.heap.size w w' := by
  by_cases h : a < b
  · exact asks_below a b c h w hG
  · by_cases g : a = b
    · subst g; exact asks_same a c w hG
    · exact asks_above a b c (by omega) w hG

theorem divides_law (a b : Int) (h0 : -9223372036854775808 ≤ a) (h1 : a ≤ 9223372036854775807) (b0 : -9223372036854775808 ≤ b) (b1 : b ≤ 9223372036854775807) (w : World) (hG : Good w) :
    Calls Tryd.prog 6 #[.int .i64 a, .int .i64 b] w fun e w' => e = .returned (.bool true) ∧ Below w.heap.size w w' := by
  by_cases hb : b = 0
  · subst hb; exact divides_none a w hG
  · exact divides_some a b _ _ hb rfl rfl h0 h1 b0 b1 w hG
end Go.Proofs.YtaefhnekcbhmbaaDoor
