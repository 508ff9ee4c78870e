/- On which side it goes on, where an instruction may stand, and where an end leads. -/
import Derived.Test.YtgkjhnghibpeoaaDoorRows
import Derived.Test.YtgkjhnghibpeoaaDoorIrLeaf
import Derived.LoopTactic
import Derived.LoopN
import Derived.Deep.LoopGhost
import Derived.WalkKit
import Derived.WalkSpells
import Derived.WalkLawsBesides
import Derived.Lib.Hide
namespace Go.Proofs.YtgkjhnghibpeoaaDoor
open Go.RowKit
set_option maxRecDepth 100000
attribute [local go_sem ↓] bld_eq bls_eq

set_option maxHeartbeats 4000000 in
theorem behind_any (i : In) (on : Nat) (w : World) : Calls Tryd.prog 58 #[i.val, .int .u8 (on : Int)] w fun e w' => e = .returned (.int .u8 (behI i.k on : Nat)) ∧ Below w.heap.size w w' := by
  obtain ⟨k, o, a, b, c, n⟩ := i
  show Calls _ _ #[.agg #[.int .u8 k, .int .u8 o, .int .i64 a, .int .i64 b, .int .i64 c, .int .i64 n], .int .u8 (on : Int)] _ _
  obtain ⟨p0, p1, p2, p3, p4, p5⟩ := own6 (MapKept.heap_alloc w (.cells #[.int .u8 k, .int .u8 o, .int .i64 a, .int .i64 b, .int .i64 c, .int .i64 n] 46)).1
  have hb := Lib.hid (below_box w (.cells #[.int .u8 k, .int .u8 o, .int .i64 a, .int .i64 b, .int .i64 c, .int .i64 n] 46))
  have hk : k = 13 ∨ k = 14 ∨ ((k == 13) = false ∧ (k == 14) = false) := by
    by_cases h : k = 13 ∨ k = 14
    · rcases h with rfl | rfl <;> simp
    · simp only [not_or] at h; simp only [beq_eq_false_iff_ne, ne_eq]; simp [h]
  rcases hk with rfl | rfl | ⟨h1, h2⟩
  all_goals
    go_enter Tryd.func58, Tryd.ntmps58
    go_wp2_with fail
    go_ret
    refine ⟨?_, hb.out⟩
    first | rfl | (simp only [beq_eq_false_iff_ne, ne_eq] at *; simp [behI, *])
set_option maxHeartbeats 4000000 in
theorem insSide_any (k : Int) (w : World) : Calls Tryd.prog 60 #[.int .u8 k] w fun e w' => e = .returned (.int .u8 (sideK k : Nat)) ∧ w = w' := by
  have hk : k = 7 ∨ k = 8 ∨ k = 9 ∨ k = 10 ∨ k = 11 ∨ k = 14 ∨ k = 13 ∨ ((k == 7) = false ∧ (k == 8) = false ∧ (k == 9) = false ∧ (k == 10) = false ∧ (k == 11) = false ∧ (k == 14) = false ∧ (k == 13) = false) := by
    by_cases h : k = 7 ∨ k = 8 ∨ k = 9 ∨ k = 10 ∨ k = 11 ∨ k = 14 ∨ k = 13
    · rcases h with rfl | rfl | rfl | rfl | rfl | rfl | rfl <;> simp
    · simp only [not_or] at h; simp only [beq_eq_false_iff_ne, ne_eq]; simp [h]
  rcases hk with rfl | rfl | rfl | rfl | rfl | rfl | rfl | ⟨h1, h2, h3, h4, h5, h6, h7⟩
  all_goals
    go_enter Tryd.func60, Tryd.ntmps60
    go_wp2_with fail
    go_ret
    first | exact ⟨rfl, rfl⟩ | (refine ⟨?_, rfl⟩; simp only [beq_eq_false_iff_ne, ne_eq] at *; simp [sideK, *])
/-- Numbers in a row of their own. -/
def Ints (w : World) (H : Nat) (s : Value) (l : List Int) : Prop := ∃ ao cap, s = .slice ao l.length cap ∧ (l = [] ∨ ∃ g, ao = some ⟨g, 0, none⟩ ∧ H ≤ g ∧ g < w.heap.size ∧ ∀ (j : Nat) y, l[j]? = some y → w.cell? ⟨g, j, none⟩ = some (.int .i64 y))
theorem ints_of {w W1 : World} (h : Below w.heap.size w W1) (us : List Value) (l : List Int) (hu : us = l.map fun y => .int .i64 y) (_ : l ≠ []) (hl : l.length = us.length) (g n : Nat) (hg : g = W1.heap.size) (hn : n = us.length) :
    Ints (W1.alloc (.cells us.toArray 3)) w.heap.size (.slice (some ⟨g, 0, none⟩) n n) l ∧ Below w.heap.size w (W1.alloc (.cells us.toArray 3)) := by
  subst hg hn
  refine ⟨⟨_, us.length, by rw [← hl], .inr ⟨_, rfl, h.size, by simp, fun j y hy => ?_⟩⟩, h.alloc h.size _⟩
  rw [Lib.cell_of_heap (MapKept.heap_alloc W1 (.cells us.toArray 3)).1]
  subst hu
  simp [hy]
/-- What next answers. -/
def NextE (b : Bk) (w : World) (e : Ending) (w' : World) : Prop := ∃ s, e = .returned s ∧ Ints w' w.heap.size s (nextL b) ∧ Below w.heap.size w w'
set_option maxHeartbeats 4000000 in
theorem next_any (b : Bk) (w : World) (hv : ∃ ao n cap, b.iv = .slice ao n cap) : Calls Tryd.prog 59 #[.agg #[b.iv, .int .u8 b.last, .int .i64 b.reg, .int .i64 b.yes, .int .i64 b.no]] w (NextE b w) := by
  obtain ⟨ao, n, cap, eiv⟩ := hv
  obtain ⟨iv, ins, last, reg, yes, no⟩ := b
  simp only at *
  subst eiv
  obtain ⟨p0, p1, p2, p3, p4⟩ := own5 (MapKept.heap_alloc w (.cells #[.slice ao n cap, .int .u8 last, .int .i64 reg, .int .i64 yes, .int .i64 no] 36)).1
  have hb := Lib.hid (below_box w (.cells #[.slice ao n cap, .int .u8 last, .int .i64 reg, .int .i64 yes, .int .i64 no] 36))
  have e1 := bls_of 37 3 1 1 #[(0, .int .i64 yes)] #[.int .i64 yes] (by kernel_rfl) (by kernel_rfl) (by kernel_rfl) (by decide) (by decide) (by kernel_rfl) (by kernel_rfl) (w.alloc (.cells #[.slice ao n cap, .int .u8 last, .int .i64 reg, .int .i64 yes, .int .i64 no] 36))
  have e2 := bls_of 37 3 2 1 #[(0, .int .i64 yes), (1, .int .i64 no)] #[.int .i64 yes, .int .i64 no] (by kernel_rfl) (by kernel_rfl) (by kernel_rfl) (by decide) (by decide) (by kernel_rfl) (by kernel_rfl) (w.alloc (.cells #[.slice ao n cap, .int .u8 last, .int .i64 reg, .int .i64 yes, .int .i64 no] 36))
  have q1 := Lib.hid (ints_of hb.out (.int .i64 yes :: []) [yes] (by simp) (by simp) rfl (w.heap.size + 1) 1 (by simp) rfl)
  have q2 := Lib.hid (ints_of hb.out (.int .i64 yes :: .int .i64 no :: []) [yes, no] (by simp) (by simp) rfl (w.heap.size + 1) 2 (by simp) rfl)
  have hk : last = 1 ∨ last = 2 ∨ ((last == 1) = false ∧ (last == 2) = false) := by
    by_cases h : last = 1 ∨ last = 2
    · rcases h with rfl | rfl <;> simp
    · simp only [not_or] at h; simp only [beq_eq_false_iff_ne, ne_eq]; simp [h]
  rcases hk with rfl | rfl | ⟨h1, h2⟩
  · clear e2 q2
    go_enter Tryd.func59, Tryd.ntmps59
    go_wp2_with fail
    go_ret
    exact ⟨_, rfl, q1.out⟩
  · clear e1 q1
    go_enter Tryd.func59, Tryd.ntmps59
    go_wp2_with fail
    go_ret
    exact ⟨_, rfl, q2.out⟩
  · clear e1 q1 e2 q2
    go_enter Tryd.func59, Tryd.ntmps59
    go_wp2_with fail
    go_ret
    refine ⟨_, rfl, ⟨none, 0, ?_, .inl ?_⟩, hb.out⟩ <;> (simp only [beq_eq_false_iff_ne, ne_eq] at *; simp [nextL, *])
end Go.Proofs.YtgkjhnghibpeoaaDoor
namespace Go.Proofs.YtgkjhnghibpeoaaDoor
open Go.RowKit
set_option maxRecDepth 100000
attribute [local go_sem ↓] bld_eq bls_eq

set_option maxHeartbeats 8000000 in
theorem tooLong_any (B : Nat) (g : Gr) (w : World) (hI : GIn w B g) (hBw : B ≤ w.heap.size) :
    Calls Tryd.prog 55 #[.agg #[g.rv, .int .i64 g.sites, g.bv]] w fun e w' => e = .returned (.bool (longB 8192 g.blocks)) ∧ Below w.heap.size w w' := by
  obtain ⟨Y, hY⟩ : ∃ Y, Y = longB 8192 g.blocks := ⟨_, rfl⟩
  rw [← hY]
  have r2 := hI.blies.room
  obtain ⟨ro, rc, er, hrl, -⟩ := hI.rlies.form
  obtain ⟨bo, bcp, eb, hbl, hbg⟩ := hI.blies.form
  have HBL := Lib.hid hI.blies
  have HBI := Lib.hid hI.blocks
  clear hI
  obtain ⟨rv, refs, sites, bv, blocks⟩ := g
  simp only at *
  subst er eb
  obtain ⟨N1, hN1⟩ : ∃ N, N = refs.length := ⟨_, rfl⟩
  obtain ⟨N2, hN2⟩ : ∃ N, N = blocks.length := ⟨_, rfl⟩
  rw [← hN1, ← hN2]
  rw [← hN2] at hbl r2 hbg HBL
  obtain ⟨W0, hW0⟩ : ∃ W0, W0 = w.alloc (.cells #[.slice ro N1 rc, .int .i64 sites, .slice bo N2 bcp] 25) := ⟨_, rfl⟩
  have hB0 : Below w.heap.size w W0 := by rw [hW0]; exact below_box w _
  have hlt0 : w.heap.size + 1 = W0.heap.size := by rw [hW0]; simp
  have hO : W0.heap[w.heap.size]? = some (.cells #[.slice ro N1 rc, .int .i64 sites, .slice bo N2 bcp] 25 (0, 0)) := by rw [hW0]; exact (MapKept.heap_alloc _ _).1
  obtain ⟨q0, q1, q2⟩ := own3 hO
  rw [hW0] at q0 q1 q2
  have HN2 := Lib.hid hN2
  have HG2 := Lib.hid hbg
  have HB0 := Lib.hid hB0
  have HZ0 := Lib.hid hlt0
  have HY := Lib.hid hY
  have HW0 := Lib.hid hW0
  clear hN1 hN2 hbg hB0 hlt0 hO hW0 hY hrl
  go_enter Tryd.func55, Tryd.ntmps55
  go_wp2_with fail
  rw [← HW0.out]
  clear q0 q1 q2
  go_loopw [3, 9] (fun m q wr => ∃ k : Nat, k ≤ N2 ∧ q = .int .i64 k ∧ ∃ r : Int, m = .int .i64 r ∧ 0 ≤ r ∧ r ≤ 8192 ∧ Hid (Y = longB r (blocks.drop k)) ∧ Below W0.heap.size W0 wr) (fun _ q _ => N2 - (intOf q).toNat)
  case atStart => exact ⟨0, by omega, rfl, 8192, rfl, by omega, by omega, HY, Below.refl _ _⟩
  case round =>
    obtain ⟨k, hkN, rfl, r, rfl, hr0, hr1, HD, hB⟩ := hrel
    have hsr := hB.size
    have hBw' : Below w.heap.size w wr := HB0.out.trans (hB.mono (by have := HZ0.out; omega))
    by_cases hlt2 : k < N2
    · obtain ⟨g, off, rfl, hg⟩ := HG2.out (by omega)
      have hka : k < blocks.length := by rw [← HN2.out]; exact hlt2
      have hat := ((HBL.out.below (hBw'.mono hBw)).at rfl k hka).2
      have ha := HBI.out _ (List.getElem_mem hka)
      have hd := HD.out
      rw [List.drop_eq_getElem_cons hka] at hd
      generalize blocks[k] = a at hat ha hd
      have hgs : g < wr.heap.size := by have := HZ0.out; omega
      obtain ⟨p0, p1, p2, p3, p4⟩ := bc hat
      obtain ⟨ao, ac, ea, -⟩ := ha.lies.form
      have hra := ha.lies.room
      rw [ea] at p0
      rw [longB] at hd
      obtain ⟨NA, hNA⟩ : ∃ N, N = a.ins.length := ⟨_, rfl⟩
      rw [← hNA] at p0 hra hd
      by_cases hlo : r < (NA : Int)
      · rw [if_pos hlo] at hd
        have HD2 := Lib.hid hd
        have HB9 := Lib.hid (hBw'.alloc (o := .cells #[.slice ao NA ac, .int .u8 a.last, .int .i64 a.reg, .int .i64 a.yes, .int .i64 a.no] 36) (by have := hBw'.size; omega))
        clear hka hat ha ea hB hBw' hd HD hNA
        go_wp2_with fail
        go_ret
        exact ⟨by rw [HD2.out]; rfl, HB9.out⟩
      · rw [if_neg hlo] at hd
        have HD2 := Lib.hid hd
        have HB := Lib.hid (hB.alloc (o := .cells #[.slice ao NA ac, .int .u8 a.last, .int .i64 a.reg, .int .i64 a.yes, .int .i64 a.no] 36) hsr)
        clear hka hat ha ea hB hBw' hd HD hNA
        go_wp2_with fail
        go_roundw
        case rel => exact ⟨k + 1, by omega, by go_num, r - (NA : Int), by go_num, by omega, by omega, HD2, HB.out⟩
        case measure => simp [intOf]; omega
    · have hd := HD.out
      rw [List.drop_eq_nil_of_le (by rw [← HN2.out]; omega)] at hd
      have HD2 := Lib.hid (show Y = false from hd)
      have HB9 := Lib.hid hBw'
      clear hB hBw' hd HD
      go_wp2_with fail
      go_ret
      exact ⟨by rw [HD2.out]; rfl, HB9.out⟩
end Go.Proofs.YtgkjhnghibpeoaaDoor
namespace Go.Proofs.YtgkjhnghibpeoaaDoor
open Go.RowKit
set_option maxRecDepth 100000
attribute [local go_sem ↓] bld_eq bls_eq

set_option maxHeartbeats 8000000 in
theorem checkSizes_any (B : Nat) (g : Gr) (w : World) (hI : GIn w B g) (hBw : B ≤ w.heap.size) :
    Calls Tryd.prog 49 #[.agg #[g.rv, .int .i64 g.sites, g.bv]] w fun e w' => e = .returned (.int .i64 (sizesE g)) ∧ Below w.heap.size w w' := by
  obtain ⟨Y, hY⟩ : ∃ Y, Y = sizesE g := ⟨_, rfl⟩
  rw [← hY]
  unfold sizesE at hY
  have r1 := hI.rlies.room
  have r2 := hI.blies.room
  have r3 := hI.sites
  obtain ⟨ro, rc, er, hrl, -⟩ := hI.rlies.form
  obtain ⟨bo, bcp, eb, hbl, -⟩ := hI.blies.form
  have HT := Lib.hid (fun (u : World) (hu : Below w.heap.size w u) => tooLong_any B g u (hI.keeps (hu.mono hBw)) (Nat.le_trans hBw hu.size))
  clear hI
  obtain ⟨rv, refs, sites, bv, blocks⟩ := g
  simp only at *
  subst er eb
  generalize longB 8192 blocks = LB at *
  obtain ⟨N1, hN1⟩ : ∃ N, N = refs.length := ⟨_, rfl⟩
  obtain ⟨N2, hN2⟩ : ∃ N, N = blocks.length := ⟨_, rfl⟩
  rw [← hN1, ← hN2] at HT hY
  rw [← hN1, ← hN2]
  rw [← hN1] at r1
  rw [← hN2] at r2
  obtain ⟨W0, hW0⟩ : ∃ W0, W0 = w.alloc (.cells #[.slice ro N1 rc, .int .i64 sites, .slice bo N2 bcp] 25) := ⟨_, rfl⟩
  have hB0 : Below w.heap.size w W0 := by rw [hW0]; exact below_box w _
  have hO : W0.heap[w.heap.size]? = some (.cells #[.slice ro N1 rc, .int .i64 sites, .slice bo N2 bcp] 25 (0, 0)) := by rw [hW0]; exact (MapKept.heap_alloc _ _).1
  have hsz : w.heap.size < W0.heap.size := by rw [hW0]; simp
  have HZ := Lib.hid hsz
  have HO := Lib.hid hO
  have HC := Lib.hid (HT.out W0 hB0)
  obtain ⟨q0, q1, q2⟩ := own3 hO
  rw [hW0] at q0 q1 q2
  have HB0 := Lib.hid hB0
  have HW0 := Lib.hid hW0
  clear hN1 hN2 hB0 hO hW0 HT hrl hbl hsz
  by_cases a1 : 1024 < N1
  · rw [if_pos (.inl a1)] at hY
    have HY := Lib.hid hY
    clear hY
    go_enter Tryd.func49, Tryd.ntmps49
    go_wp2_with fail
    go_ret
    exact ⟨by rw [HY.out]; rfl, by rw [← HW0.out]; exact HB0.out⟩
  by_cases a2 : 4096 < N2
  · rw [if_pos (.inr (.inl a2))] at hY
    have HY := Lib.hid hY
    clear hY
    go_enter Tryd.func49, Tryd.ntmps49
    go_wp2_with fail
    go_ret
    exact ⟨by rw [HY.out]; rfl, by rw [← HW0.out]; exact HB0.out⟩
  by_cases a3 : 8192 < sites
  · rw [if_pos (.inr (.inr a3))] at hY
    have HY := Lib.hid hY
    clear hY
    go_enter Tryd.func49, Tryd.ntmps49
    go_wp2_with fail
    go_ret
    exact ⟨by rw [HY.out]; rfl, by rw [← HW0.out]; exact HB0.out⟩
  rw [if_neg (by omega)] at hY
  have HY := Lib.hid hY
  clear hY
  go_enter Tryd.func49, Tryd.ntmps49
  go_wp2_with fail
  rw [← HW0.out]
  refine HC.out.mono ?_; rintro e w2 ⟨rfl, hb2⟩
  have HB2 := Lib.hid (HB0.out.trans (hb2.mono (Nat.le_of_lt HZ.out)))
  obtain ⟨q0, q1, q2⟩ := own3 ((hb2.block w.heap.size HZ.out).trans HO.out)
  have hz2 : w.heap.size < w2.heap.size := Nat.lt_of_lt_of_le HZ.out hb2.size
  clear hb2
  cases LB with
  | true =>
    go_wp2_with fail
    go_ret
    exact ⟨by rw [HY.out]; rfl, HB2.out⟩
  | false =>
    have hY := HY.out
    rw [if_neg (by decide)] at hY
    by_cases a4 : N2 = 0
    · rw [if_pos (.inl a4)] at hY
      subst a4
      have HY2 := Lib.hid hY
      clear hY HY
      go_wp2_with fail
      go_ret
      exact ⟨by rw [HY2.out]; rfl, HB2.out⟩
    · by_cases a5 : sites < 0
      · rw [if_pos (.inr a5)] at hY
        have HY2 := Lib.hid hY
        clear hY HY
        go_wp2_with fail
        go_ret
        exact ⟨by rw [HY2.out]; rfl, HB2.out⟩
      · rw [if_neg (by omega)] at hY
        have HY2 := Lib.hid hY
        have h4 : (((N2 : Nat) : Int) == 0) = false := by simp only [beq_eq_false_iff_ne, ne_eq]; omega
        clear hY HY
        go_wp2_with fail
        go_ret
        exact ⟨by rw [HY2.out]; rfl, HB2.out⟩
end Go.Proofs.YtgkjhnghibpeoaaDoor
namespace Go.Proofs.YtgkjhnghibpeoaaDoor
open Go.RowKit
set_option maxRecDepth 100000
attribute [local go_sem ↓] bld_eq bls_eq

theorem made_int (n : Int) (w : World) : (bls 37 1 #[(0, .int .i64 n)]).run Tryd.prog w = .ok (.slice (some ⟨w.heap.size, 0, none⟩) 1 1) (w.alloc (.cells #[.int .i64 n] 3)) := bls_of 37 3 1 1 #[(0, .int .i64 n)] #[.int .i64 n] (by kernel_rfl) (by kernel_rfl) (by kernel_rfl) (by omega) (by omega) (by kernel_rfl) (by kernel_rfl) w
set_option maxHeartbeats 1000000 in
theorem beyond_any (b : Nat) (n : Int) (T : TypeId) (fr : Nat × Nat) (w : World) (h0 : 0 ≤ n) (h1 : n ≤ 262145) (h : w.heap[b]? = some (.cells #[.int .i64 n] T fr)) :
    Calls Tryd.prog 5 #[.slice (some ⟨b, 0, none⟩) 1 1] w fun e w' => e = .returned (.bool (decide (262144 < n))) ∧ w = w' := by
  have hc : w.cell? ⟨b, 0, none⟩ = some (.int .i64 n) := by rw [Lib.cell_of_heap h]; rfl
  clear h
  by_cases hn : 262144 < n
  · have HD := Lib.hid (decide_eq_true hn)
    go_enter Tryd.func5, Tryd.ntmps5
    go_wp2_with fail
    refine wp_loop_rounds 2 ?_
    rw [rounds_succ]
    go_wp2_with fail
    go_ret
    exact ⟨by rw [HD.out]; rfl, rfl⟩
  · have HD := Lib.hid (decide_eq_false hn)
    go_enter Tryd.func5, Tryd.ntmps5
    go_wp2_with fail
    refine wp_loop_rounds 2 ?_
    rw [rounds_succ]
    go_wp2_with fail
    rw [rounds_succ]
    go_wp2_with fail
    go_ret
    exact ⟨by rw [HD.out]; rfl, rfl⟩
/-- A size: no more than so much. -/
def SizeE (e : Ending) : Prop := ∃ n : Int, e = .returned (.int .i64 n) ∧ 0 ≤ n ∧ n ≤ 262145
theorem counted_any (r : Int) (h0 : -9223372036854775808 ≤ r) (h1 : r ≤ 262144) (w : World) : Calls Tryd.prog 16 #[.int .i64 r] w fun e w' => SizeE e ∧ w = w' := by
  by_cases h : r < 0
  · go_enter Tryd.func16, Tryd.ntmps16
    go_wp2_with fail
    go_ret
    exact ⟨⟨262145, rfl, by omega, by omega⟩, rfl⟩
  · go_enter Tryd.func16, Tryd.ntmps16
    go_wp2_with fail
    go_ret
    exact ⟨⟨262144 - r, rfl, by omega, by omega⟩, rfl⟩
set_option maxHeartbeats 8000000 in
theorem gsize_any (B : Nat) (g : Gr) (w : World) (hI : GIn w B g) (hBw : B ≤ w.heap.size) :
    Calls Tryd.prog 6 #[.agg #[g.rv, .int .i64 g.sites, g.bv]] w fun e w' => SizeE e ∧ Below w.heap.size w w' := by
  have r1 := hI.rlies.room
  have r2 := hI.blies.room
  obtain ⟨ro, rc, er, hrl, -⟩ := hI.rlies.form
  obtain ⟨bo, bcp, eb, hbl, hbg⟩ := hI.blies.form
  have HBL := Lib.hid hI.blies
  have HBI := Lib.hid hI.blocks
  clear hI
  obtain ⟨rv, refs, sites, bv, blocks⟩ := g
  simp only at *
  subst er eb
  obtain ⟨N1, hN1⟩ : ∃ N, N = refs.length := ⟨_, rfl⟩
  obtain ⟨N2, hN2⟩ : ∃ N, N = blocks.length := ⟨_, rfl⟩
  rw [← hN1, ← hN2]
  rw [← hN1] at hrl r1
  rw [← hN2] at hbl r2 hbg HBL
  obtain ⟨W0, hW0⟩ : ∃ W0, W0 = w.alloc (.cells #[.slice ro N1 rc, .int .i64 sites, .slice bo N2 bcp] 25) := ⟨_, rfl⟩
  have hB0 : Below w.heap.size w W0 := by rw [hW0]; exact below_box w _
  have hlt0 : w.heap.size + 1 = W0.heap.size := by rw [hW0]; simp
  have hO : W0.heap[w.heap.size]? = some (.cells #[.slice ro N1 rc, .int .i64 sites, .slice bo N2 bcp] 25 (0, 0)) := by rw [hW0]; exact (MapKept.heap_alloc _ _).1
  obtain ⟨q0, q1, q2⟩ := own3 hO
  rw [hW0] at q0 q1 q2
  have HN2 := Lib.hid hN2
  have HG2 := Lib.hid hbg
  have HB0 := Lib.hid hB0
  have HZ0 := Lib.hid hlt0
  have HO := Lib.hid hO
  have HW0 := Lib.hid hW0
  clear hN1 hN2 hbg hB0 hlt0 hO hW0
  go_enter Tryd.func6, Tryd.ntmps6
  go_wp2_with fail
  rw [← HW0.out]
  clear q0 q1 q2
  go_loopw [3, 4] (fun m q wr => ∃ k : Nat, k ≤ N2 ∧ q = .int .i64 k ∧ ∃ r : Int, m = .int .i64 r ∧ -600000000000000 ≤ r ∧ r ≤ 262144 ∧ Below W0.heap.size W0 wr) (fun _ q _ => N2 - (intOf q).toNat)
  case atStart => exact ⟨0, by omega, rfl, 262144 - (N1 : Int) - (N2 : Int), rfl, by omega, by omega, Below.refl _ _⟩
  case round =>
    obtain ⟨k, hkN, rfl, r, rfl, hr0, hr1, hB⟩ := hrel
    have hsr := hB.size
    have hBw' : Below w.heap.size w wr := HB0.out.trans (hB.mono (by have := HZ0.out; omega))
    have hsz : w.heap.size < wr.heap.size := by have := HZ0.out; omega
    have hOr := (hB.block w.heap.size (by have := HZ0.out; omega)).trans HO.out
    obtain ⟨q0, q1, q2⟩ := own3 hOr
    clear hOr
    by_cases hlt2 : k < N2 ∧ 0 ≤ r
    · obtain ⟨hlt2, hrp⟩ := hlt2
      obtain ⟨g, off, rfl, hg⟩ := HG2.out (by omega)
      have hka : k < blocks.length := by rw [← HN2.out]; exact hlt2
      have hat := ((HBL.out.below (hBw'.mono hBw)).at rfl k hka).2
      have ha := HBI.out _ (List.getElem_mem hka)
      generalize blocks[k] = a at hat ha
      have hgs : g < wr.heap.size := by omega
      obtain ⟨p0, p1, p2, p3, p4⟩ := bc hat
      obtain ⟨ao, ac, ea, -⟩ := ha.lies.form
      have hra := ha.lies.room
      rw [ea] at p0
      have HB := Lib.hid hB
      clear hka hat ha ea hB hBw' p1 p2 p3 p4
      go_wp2_with fail
      go_roundw
      case rel => exact ⟨k + 1, by omega, by go_num, r - (a.ins.length : Int), by go_num, by omega, by omega, HB.out⟩
      case measure => simp [intOf]; omega
    · have hor : ¬ k < N2 ∨ (k < N2 ∧ r < 0) := by
        by_cases h : k < N2
        · exact .inr ⟨h, by by_cases h2 : 0 ≤ r; exact absurd ⟨h, h2⟩ hlt2; omega⟩
        · exact .inl h
      have HB9 := Lib.hid hBw'
      have HC := Lib.hid (counted_any r (by omega) hr1 wr)
      clear hlt2 hB hBw'
      rcases hor with hor | ⟨hor, hneg⟩
      all_goals
        go_wp2_with fail
        refine HC.out.mono ?_; rintro e w3 ⟨⟨n, rfl, hn0, hn1⟩, rfl⟩
        go_wp2_with fail
        go_ret
        exact ⟨⟨n, rfl, hn0, hn1⟩, HB9.out⟩
end Go.Proofs.YtgkjhnghibpeoaaDoor
