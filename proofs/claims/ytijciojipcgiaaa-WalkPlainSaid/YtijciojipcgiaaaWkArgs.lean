/- How large graphs are: never more than so much, and whether that is too much. -/
import Derived.Test.YtijciojipcgiaaaRows
import Derived.Test.YtijciojipcgiaaaIrSizes
import Derived.LoopTactic
import Derived.LoopN
import Derived.Deep.LoopGhost
import Derived.WalkKit
import Derived.WalkSpells
import Derived.WalkLawsBesides
import Derived.Lib.Hide
import Derived.Test.YtijciojipcgiaaaWkRunE
import Derived.OrdersHeld
import Derived.Deep.RegionHeld
import Derived.Deep.DrawnRows
import Derived.RegionTactic
import Derived.Deep.RegionHeld3
import Derived.Deep.AppendLies
import Derived.IntWalk
namespace Go.Proofs.Ytijciojipcgiaaa
open Go.RowKit
set_option maxRecDepth 100000
attribute [local go_sem ↓] bld_eq bls_eq

theorem made_int (n : Int) (w : World) : (bls 25 1 #[(0, .int .i64 n)]).run Try.prog w = .ok (.slice (some ⟨w.heap.size, 0, none⟩) 1 1) (w.alloc (.cells #[.int .i64 n] 3)) := bls_of 25 3 1 1 #[(0, .int .i64 n)] #[.int .i64 n] (by kernel_rfl) (by kernel_rfl) (by kernel_rfl) (by omega) (by omega) (by kernel_rfl) (by kernel_rfl) w
set_option maxHeartbeats 1000000 in
theorem beyond_any (b : Nat) (n : Int) (T : TypeId) (fr : Nat × Nat) (w : World) (h0 : 0 ≤ n) (h1 : n ≤ 262145) (h : w.heap[b]? = some (.cells #[.int .i64 n] T fr)) :
    Calls Try.prog 5 #[.slice (some ⟨b, 0, none⟩) 1 1] w fun e w' => e = .returned (.bool (decide (262144 < n))) ∧ w = w' := by
  have hc : w.cell? ⟨b, 0, none⟩ = some (.int .i64 n) := by rw [Lib.cell_of_heap h]; rfl
  clear h
  by_cases hn : 262144 < n
  · have HD := Lib.hid (decide_eq_true hn)
    go_enter Try.func5, Try.ntmps5
    go_wp2_with fail
    refine wp_loop_rounds 2 ?_
    rw [rounds_succ]
    go_wp2_with fail
    go_ret
    exact ⟨by rw [HD.out]; rfl, rfl⟩
  · have HD := Lib.hid (decide_eq_false hn)
    go_enter Try.func5, Try.ntmps5
    go_wp2_with fail
    refine wp_loop_rounds 2 ?_
    rw [rounds_succ]
    go_wp2_with fail
    rw [rounds_succ]
    go_wp2_with fail
    go_ret
    exact ⟨by rw [HD.out]; rfl, rfl⟩
/-- A size: no more than so much. -/
def SizeE (e : Ending) : Prop := ∃ n : Int, e = .returned (.int .i64 n) ∧ 0 ≤ n ∧ n ≤ 262145
theorem counted_any (r : Int) (h0 : -9223372036854775808 ≤ r) (h1 : r ≤ 262144) (w : World) : Calls Try.prog 13 #[.int .i64 r] w fun e w' => SizeE e ∧ w = w' := by
  by_cases h : r < 0
  · go_enter Try.func13, Try.ntmps13
    go_wp2_with fail
    go_ret
    exact ⟨⟨262145, rfl, by omega, by omega⟩, rfl⟩
  · go_enter Try.func13, Try.ntmps13
    go_wp2_with fail
    go_ret
    exact ⟨⟨262144 - r, rfl, by omega, by omega⟩, rfl⟩
set_option maxHeartbeats 8000000 in
theorem gsize_any (B : Nat) (g : Gr) (w : World) (hI : GIn w B g) (hBw : B ≤ w.heap.size) :
    Calls Try.prog 12 #[.agg #[g.rv, .int .i64 g.sites, g.bv]] w fun e w' => SizeE e ∧ Below w.heap.size w w' := by
  have r1 := hI.rlies.room
  have r2 := hI.blies.room
  obtain ⟨ro, rc, er, hrl, -⟩ := hI.rlies.form
  obtain ⟨bo, bcp, eb, hbl, hbg⟩ := hI.blies.form
  have HBL := Lib.hid hI.blies
  have HBI := Lib.hid hI.blocks
  clear hI
  obtain ⟨rv, refs, sites, bv, blocks⟩ := g
  simp only at *
  subst er eb
  obtain ⟨N1, hN1⟩ : ∃ N, N = refs.length := ⟨_, rfl⟩
  obtain ⟨N2, hN2⟩ : ∃ N, N = blocks.length := ⟨_, rfl⟩
  rw [← hN1, ← hN2]
  rw [← hN1] at hrl r1
  rw [← hN2] at hbl r2 hbg HBL
  obtain ⟨W0, hW0⟩ : ∃ W0, W0 = w.alloc (.cells #[.slice ro N1 rc, .int .i64 sites, .slice bo N2 bcp] 45) := ⟨_, rfl⟩
  have hB0 : Below w.heap.size w W0 := by rw [hW0]; exact below_box w _
  have hlt0 : w.heap.size + 1 = W0.heap.size := by rw [hW0]; simp
  have hO : W0.heap[w.heap.size]? = some (.cells #[.slice ro N1 rc, .int .i64 sites, .slice bo N2 bcp] 45 (0, 0)) := by rw [hW0]; exact (MapKept.heap_alloc _ _).1
  obtain ⟨q0, q1, q2⟩ := own3 hO
  rw [hW0] at q0 q1 q2
  have HN2 := Lib.hid hN2
  have HG2 := Lib.hid hbg
  have HB0 := Lib.hid hB0
  have HZ0 := Lib.hid hlt0
  have HO := Lib.hid hO
  have HW0 := Lib.hid hW0
  clear hN1 hN2 hbg hB0 hlt0 hO hW0
  go_enter Try.func12, Try.ntmps12
  go_wp2_with fail
  rw [← HW0.out]
  clear q0 q1 q2
  go_loopw [3, 4] (fun m q wr => ∃ k : Nat, k ≤ N2 ∧ q = .int .i64 k ∧ ∃ r : Int, m = .int .i64 r ∧ -600000000000000 ≤ r ∧ r ≤ 262144 ∧ Below W0.heap.size W0 wr) (fun _ q _ => N2 - (intOf q).toNat)
  case atStart => exact ⟨0, by omega, rfl, 262144 - (N1 : Int) - (N2 : Int), rfl, by omega, by omega, Below.refl _ _⟩
  case round =>
    obtain ⟨k, hkN, rfl, r, rfl, hr0, hr1, hB⟩ := hrel
    have hsr := hB.size
    have hBw' : Below w.heap.size w wr := HB0.out.trans (hB.mono (by have := HZ0.out; omega))
    have hsz : w.heap.size < wr.heap.size := by have := HZ0.out; omega
    have hOr := (hB.block w.heap.size (by have := HZ0.out; omega)).trans HO.out
    obtain ⟨q0, q1, q2⟩ := own3 hOr
    clear hOr
    by_cases hlt2 : k < N2 ∧ 0 ≤ r
    · obtain ⟨hlt2, hrp⟩ := hlt2
      obtain ⟨g, off, rfl, hg⟩ := HG2.out (by omega)
      have hka : k < blocks.length := by rw [← HN2.out]; exact hlt2
      have hat := ((HBL.out.below (hBw'.mono hBw)).at rfl k hka).2
      have ha := HBI.out _ (List.getElem_mem hka)
      generalize blocks[k] = a at hat ha
      have hgs : g < wr.heap.size := by omega
      obtain ⟨p0, p1, p2, p3, p4⟩ := bc hat
      obtain ⟨ao, ac, ea, -⟩ := ha.lies.form
      have hra := ha.lies.room
      rw [ea] at p0
      have HB := Lib.hid hB
      clear hka hat ha ea hB hBw' p1 p2 p3 p4
      go_wp2_with fail
      go_roundw
      case rel => exact ⟨k + 1, by omega, by go_num, r - (a.ins.length : Int), by go_num, by omega, by omega, HB.out⟩
      case measure => simp [intOf]; omega
    · have hor : ¬ k < N2 ∨ (k < N2 ∧ r < 0) := by
        by_cases h : k < N2
        · exact .inr ⟨h, by by_cases h2 : 0 ≤ r; exact absurd ⟨h, h2⟩ hlt2; omega⟩
        · exact .inl h
      have HB9 := Lib.hid hBw'
      have HC := Lib.hid (counted_any r (by omega) hr1 wr)
      clear hlt2 hB hBw'
      rcases hor with hor | ⟨hor, hneg⟩
      all_goals
        go_wp2_with fail
        refine HC.out.mono ?_; rintro e w3 ⟨⟨n, rfl, hn0, hn1⟩, rfl⟩
        go_wp2_with fail
        go_ret
        exact ⟨⟨n, rfl, hn0, hn1⟩, HB9.out⟩
set_option maxHeartbeats 8000000 in
theorem csize_any (B : Nat) (c : Cd) (w : World) (hI : CIn w B c) (hBw : B ≤ w.heap.size) :
    Calls Try.prog 6 #[.agg #[.int .i64 c.words, c.tv]] w fun e w' => SizeE e ∧ Below w.heap.size w w' := by
  have r2 := hI.tlies.room
  obtain ⟨bo, bcp, eb, hbl, hbg⟩ := hI.tlies.form
  have HBL := Lib.hid hI.tlies
  have HBI := Lib.hid hI.threads
  clear hI
  obtain ⟨words, tv, threads⟩ := c
  simp only at *
  subst eb
  obtain ⟨N2, hN2⟩ : ∃ N, N = threads.length := ⟨_, rfl⟩
  rw [← hN2]
  rw [← hN2] at hbl r2 hbg HBL
  obtain ⟨W0, hW0⟩ : ∃ W0, W0 = w.alloc (.cells #[.int .i64 words, .slice bo N2 bcp] 24) := ⟨_, rfl⟩
  have hB0 : Below w.heap.size w W0 := by rw [hW0]; exact below_box w _
  have hlt0 : w.heap.size + 1 = W0.heap.size := by rw [hW0]; simp
  have hO : W0.heap[w.heap.size]? = some (.cells #[.int .i64 words, .slice bo N2 bcp] 24 (0, 0)) := by rw [hW0]; exact (MapKept.heap_alloc _ _).1
  have HN2 := Lib.hid hN2
  have HG2 := Lib.hid hbg
  have HB0 := Lib.hid hB0
  have HZ0 := Lib.hid hlt0
  have HO := Lib.hid hO
  have HW0 := Lib.hid hW0
  clear hN2 hbg hB0 hlt0 hO hW0
  go_enter Try.func6, Try.ntmps6
  go_wp2_with fail
  rw [← HW0.out]
  go_loopw [3, 4] (fun m q wr => ∃ k : Nat, k ≤ N2 ∧ q = .int .i64 k ∧ ∃ r : Int, m = .int .i64 r ∧ -600000000000000 ≤ r ∧ r ≤ 262144 ∧ Below W0.heap.size W0 wr) (fun _ q _ => N2 - (intOf q).toNat)
  case atStart => exact ⟨0, by omega, rfl, 262144, rfl, by omega, by omega, Below.refl _ _⟩
  case round =>
    obtain ⟨k, hkN, rfl, r, rfl, hr0, hr1, hB⟩ := hrel
    have hsr := hB.size
    have hBw' : Below w.heap.size w wr := HB0.out.trans (hB.mono (by have := HZ0.out; omega))
    have hsz : w.heap.size < wr.heap.size := by have := HZ0.out; omega
    have hOr := (hB.block w.heap.size (by have := HZ0.out; omega)).trans HO.out
    obtain ⟨q0, q1⟩ := own2 hOr
    clear hOr
    by_cases hlt2 : k < N2 ∧ 0 ≤ r
    · obtain ⟨hlt2, hrp⟩ := hlt2
      obtain ⟨g, off, rfl, hg⟩ := HG2.out (by omega)
      have hka : k < threads.length := by rw [← HN2.out]; exact hlt2
      have hat := ((HBL.out.below (hBw'.mono hBw)).at rfl k hka).2
      have ha := (HBI.out _ (List.getElem_mem hka)).keeps (hBw'.mono hBw)
      generalize threads[k] = a at hat ha
      have hgs : g < wr.heap.size := by omega
      obtain ⟨p0, p1, p2⟩ := gc3 hat
      have hG := gsize_any B a wr ha (by omega)
      obtain ⟨ao, ac, ea, -⟩ := ha.rlies.form
      obtain ⟨do', dc, ed, -⟩ := ha.blies.form
      rw [ea, ed] at hG
      rw [ea] at p0
      rw [ed] at p2
      have HG := Lib.hid hG
      have HB := Lib.hid hB
      clear hka hat ha ea ed hB hBw' hG
      go_wp2_with fail
      refine HG.out.mono ?_; rintro e1 w1 ⟨⟨n, rfl, hn0, hn1⟩, hb1⟩
      have HB1 := Lib.hid (HB.out.trans (hb1.mono hsr))
      clear hb1 p0 p1 p2 q0 q1
      go_wp2_with fail
      go_roundw
      case rel => exact ⟨k + 1, by omega, by go_num, r - 1 - n, by go_num, by omega, by omega, HB1.out⟩
      case measure => simp [intOf]; omega
    · have hor : ¬ k < N2 ∨ (k < N2 ∧ r < 0) := by
        by_cases h : k < N2
        · exact .inr ⟨h, by by_cases h2 : 0 ≤ r; exact absurd ⟨h, h2⟩ hlt2; omega⟩
        · exact .inl h
      have HB9 := Lib.hid hBw'
      have HC := Lib.hid (counted_any r (by omega) hr1 wr)
      clear hlt2 hB hBw'
      rcases hor with hor | ⟨hor, hneg⟩
      all_goals
        go_wp2_with fail
        refine HC.out.mono ?_; rintro e w3 ⟨⟨n, rfl, hn0, hn1⟩, rfl⟩
        go_wp2_with fail
        go_ret
        exact ⟨⟨n, rfl, hn0, hn1⟩, HB9.out⟩
end Go.Proofs.Ytijciojipcgiaaa
namespace Go.Proofs.Ytijciojipcgiaaa
open Go.RowKit
set_option maxRecDepth 100000
attribute [local go_sem ↓] bld_eq bls_eq

theorem bls_of4 (t e : TypeId) (k n : Nat) (parts : Array (Nat × Value)) (cells : Array Value) (hs : (Try.prog.info? e).isSome = true) (hz : ((Try.prog.info? e).get hs).zero.isSome = true) (hn : ((Try.prog.info? e).get hs).size = n) (hk : 0 < k ∧ k ≤ 4) (hn0 : 0 < n ∧ n ≤ 100) (hu : Try.prog.underlying t = some (.slice e))
    (hf : Instr.fill (fun i => some (i * n, n)) ((Array.range (k * n)).map ((((Try.prog.info? e).get hs).zero.get hz).cells[· % (((Try.prog.info? e).get hs).zero.get hz).cells.size]!)) parts.toList = some cells) (w : World) :
    (bls t k parts).run Try.prog w = .ok (.slice (some ⟨w.heap.size, 0, none⟩) k k) (w.alloc (.cells cells e)) := by
  unfold bls
  have h1 : ¬ k * n > 2 ^ 24 := by
    have : k * n ≤ 4 * 100 := Nat.mul_le_mul hk.2 hn0.2
    omega
  have h2 : ¬ k * n = 0 := by
    have : 1 * 1 ≤ k * n := Nat.mul_le_mul hk.1 hn0.1
    omega
  exact run_buildSlice w t e k parts cells ((Try.prog.info? e).get hs) (((Try.prog.info? e).get hs).zero.get hz) hu (Option.some_get hs).symm (Option.some_get hz).symm (by rw [hn]; exact h1) (by rw [hn]; exact h2) (by rw [hn]; exact hf)
theorem made_int3 (a b c : Int) (w : World) : (bls 25 3 #[(0, .int .i64 a), (1, .int .i64 b), (2, .int .i64 c)]).run Try.prog w = .ok (.slice (some ⟨w.heap.size, 0, none⟩) 3 3) (w.alloc (.cells #[.int .i64 a, .int .i64 b, .int .i64 c] 3)) := bls_of4 25 3 3 1 _ #[.int .i64 a, .int .i64 b, .int .i64 c] (by kernel_rfl) (by kernel_rfl) (by kernel_rfl) (by omega) (by omega) (by kernel_rfl) (by kernel_rfl) w
theorem made_int2 (a b : Int) (w : World) : (bls 25 2 #[(0, .int .i64 a), (1, .int .i64 b)]).run Try.prog w = .ok (.slice (some ⟨w.heap.size, 0, none⟩) 2 2) (w.alloc (.cells #[.int .i64 a, .int .i64 b] 3)) := bls_of4 25 3 2 1 _ #[.int .i64 a, .int .i64 b] (by kernel_rfl) (by kernel_rfl) (by kernel_rfl) (by omega) (by omega) (by kernel_rfl) (by kernel_rfl) w
theorem made_int0 (w : World) : (bls 25 0 #[]).run Try.prog w = .ok (.slice (some ⟨w.heap.size, 0, none⟩) 0 0) (w.alloc (.cells #[] 3)) := by
  unfold bls
  have hi : (Try.prog.info? 3).map (fun i => (i.zero, i.size, i.bytes)) = some (some (.int .i64 0), 1, 8) := by kernel_rfl
  obtain ⟨i0, hi, hz0, hz1, hz2⟩ := info_parts hi
  simp [Instr.buildSlice, run_underlying Try.underlying25, sizeOf, typeInfo, hi, newRow, Instr.fill, Array.range_zero']
/-- Whether three sizes are too much. -/
theorem bool_or (b : Bool) : b = true ∨ b = false := by cases b <;> simp
set_option maxHeartbeats 4000000 in
theorem beyond3_any (b : Nat) (x y z : Int) (T : TypeId) (fr : Nat × Nat) (w : World) (h : w.heap[b]? = some (.cells #[.int .i64 x, .int .i64 y, .int .i64 z] T fr)) :
    Calls Try.prog 5 #[.slice (some ⟨b, 0, none⟩) 3 3] w fun e w' => (e = .returned (.bool true) ∨ (e = .returned (.bool false) ∧ (0 ≤ x ∧ x ≤ 262144) ∧ (0 ≤ y ∧ y ≤ 262144) ∧ (0 ≤ z ∧ z ≤ 262144))) ∧ w = w' := by
  obtain ⟨c0, c1, c2⟩ := own3' h
  have hb := heap_lt h
  clear h
  have hor : x < 0 ∨ (¬ x < 0 ∧ 262144 < x) ∨ (0 ≤ x ∧ x ≤ 262144 ∧ y < 0) ∨ (0 ≤ x ∧ x ≤ 262144 ∧ ¬ y < 0 ∧ 262144 < y) ∨ (0 ≤ x ∧ x ≤ 262144 ∧ 0 ≤ y ∧ y ≤ 262144 ∧ 262144 < x + y) ∨
      (0 ≤ x ∧ x ≤ 262144 ∧ 0 ≤ y ∧ y ≤ 262144 ∧ x + y ≤ 262144 ∧ z < 0) ∨ (0 ≤ x ∧ x ≤ 262144 ∧ 0 ≤ y ∧ y ≤ 262144 ∧ x + y ≤ 262144 ∧ ¬ z < 0 ∧ 262144 < z) ∨ (0 ≤ x ∧ x ≤ 262144 ∧ 0 ≤ y ∧ y ≤ 262144 ∧ x + y ≤ 262144 ∧ 0 ≤ z ∧ z ≤ 262144 ∧ 262144 < x + y + z) ∨
      (0 ≤ x ∧ x ≤ 262144 ∧ 0 ≤ y ∧ y ≤ 262144 ∧ x + y ≤ 262144 ∧ 0 ≤ z ∧ z ≤ 262144 ∧ x + y + z ≤ 262144) := by omega
  rcases hor with h1 | ⟨h1, h2⟩ | ⟨h1, h2, h3⟩ | ⟨h1, h2, h3, h4⟩ | ⟨h1, h2, h3, h4, h5⟩ | ⟨h1, h2, h3, h4, h5, h6⟩ | ⟨h1, h2, h3, h4, h5, h6, h7⟩ | ⟨h1, h2, h3, h4, h5, h6, h7, h8⟩ | ⟨h1, h2, h3, h4, h5, h6, h7, h8⟩
  all_goals
    try have hx1 : ¬ x < 0 := by omega
    try have hx2 : ¬ 262144 < x := by omega
    try have hy1 : ¬ y < 0 := by omega
    try have hy2 : ¬ 262144 < y := by omega
    try have hz1 : ¬ z < 0 := by omega
    try have hz2 : ¬ 262144 < z := by omega
    go_enter Try.func5, Try.ntmps5
    go_wp2_with fail
    refine wp_loop_rounds 4 ?_
    rw [rounds_succ]
    go_wp2_with fail
    repeat (rw [rounds_succ]; go_wp2_with fail)
    go_ret
    first | exact ⟨.inl rfl, rfl⟩ | exact ⟨.inr ⟨rfl, by omega, by omega, by omega⟩, rfl⟩
end Go.Proofs.Ytijciojipcgiaaa
