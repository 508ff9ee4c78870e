/- What a text builds: structs, and slices of a few elements, as walks meet them. -/
import Derived.Test.YtgkjhnghibpeoaaRows
import Derived.Test.YtgkjhnghibpeoaaProg
import Derived.Great.BuildSlice
import Derived.Laws.Tables
import Derived.Lib.Hide
import Derived.Test.YtgkjhnghibpeoaaIrIn
import Derived.LoopTactic
import Derived.LoopN
import Derived.Deep.LoopGhost
import Derived.WalkKit
import Derived.WalkSpells
import Derived.WalkLawsBesides
namespace Go.Proofs.Ytgkjhnghibpeoaa
open Go.RowKit
set_option maxRecDepth 100000
@[irreducible] noncomputable def bld (t : TypeId) (parts : Array (Nat × Value)) : Sem Value := Instr.build t parts
theorem bld_eq (t : TypeId) (parts : Array (Nat × Value)) : Instr.build t parts = bld t parts := by unfold bld; rfl
@[irreducible] noncomputable def bls (t : TypeId) (n : Nat) (parts : Array (Nat × Value)) : Sem Value := Instr.buildSlice t n parts
theorem bls_eq (t : TypeId) (n : Nat) (parts : Array (Nat × Value)) : Instr.buildSlice t n parts = bls t n parts := by unfold bls; rfl
theorem bld_of (t : TypeId) (parts : Array (Nat × Value)) (cells : Array Value) (h : Try.prog.built t parts.toList = some cells) (w : World) : (bld t parts).run Try.prog w = .ok (.agg cells) w := by
  unfold bld
  exact run_build w t parts cells h
theorem bls_of (t e : TypeId) (k n : Nat) (parts : Array (Nat × Value)) (cells : Array Value) (hs : (Try.prog.info? e).isSome = true) (hz : ((Try.prog.info? e).get hs).zero.isSome = true) (hn : ((Try.prog.info? e).get hs).size = n) (hk : 0 < k ∧ k ≤ 2) (hn0 : 0 < n ∧ n ≤ 100) (hu : Try.prog.underlying t = some (.slice e))
    (hf : Instr.fill (fun i => some (i * n, n)) ((Array.range (k * n)).map ((((Try.prog.info? e).get hs).zero.get hz).cells[· % (((Try.prog.info? e).get hs).zero.get hz).cells.size]!)) parts.toList = some cells) (w : World) :
    (bls t k parts).run Try.prog w = .ok (.slice (some ⟨w.heap.size, 0, none⟩) k k) (w.alloc (.cells cells e)) := by
  unfold bls
  have h1 : ¬ k * n > 2 ^ 24 := by
    have : k * n ≤ 2 * 100 := Nat.mul_le_mul hk.2 hn0.2
    omega
  have h2 : ¬ k * n = 0 := by
    have : 1 * 1 ≤ k * n := Nat.mul_le_mul hk.1 hn0.1
    omega
  exact run_buildSlice w t e k parts cells ((Try.prog.info? e).get hs) (((Try.prog.info? e).get hs).zero.get hz) hu (Option.some_get hs).symm (Option.some_get hz).symm (by rw [hn]; exact h1) (by rw [hn]; exact h2) (by rw [hn]; exact hf)

end Go.Proofs.Ytgkjhnghibpeoaa
namespace Go.Proofs.Ytgkjhnghibpeoaa
open Go.RowKit
set_option maxRecDepth 100000
attribute [local go_sem ↓] bld_eq bls_eq

theorem below_box (w : World) (o : Obj) : Below w.heap.size w (w.alloc o) := (Below.refl _ _).alloc (Nat.le_refl _) o
theorem within_any (n a b : Int) (w : World) : Calls Try.prog 51 #[.int .i64 n, .int .i64 a, .int .i64 b] w fun e w' => e = .returned (.bool (inB n a b)) ∧ w = w' := by
  by_cases h1 : a ≤ n <;> by_cases h2 : n ≤ b
  all_goals
    have hr : inB n a b = (decide (a ≤ n) && decide (n ≤ b)) := rfl
    first | rw [decide_eq_true h1] at hr | rw [decide_eq_false h1] at hr
    first | rw [decide_eq_true h2] at hr | rw [decide_eq_false h2] at hr
    have HR := Lib.hid hr
    clear hr
    go_enter Try.func51, Try.ntmps51
    go_wp2_with fail
    go_ret
    exact ⟨by rw [HR.out]; rfl, rfl⟩
set_option maxHeartbeats 4000000 in
theorem insLine_any (k : Int) (w : World) : Calls Try.prog 43 #[.int .u8 k] w fun e w' => e = .returned (.tuple #[.string (insNm k), .string (insHas k)]) ∧ w = w' := by
  have hk : k = 1 ∨ k = 2 ∨ k = 3 ∨ k = 4 ∨ k = 5 ∨ k = 6 ∨ k = 7 ∨ k = 8 ∨ k = 9 ∨ k = 10 ∨ k = 11 ∨ k = 12 ∨ k = 13 ∨ k = 14 ∨ ((k == 1) = false ∧ (k == 2) = false ∧ (k == 3) = false ∧ (k == 4) = false ∧ (k == 5) = false ∧ (k == 6) = false ∧ (k == 7) = false ∧ (k == 8) = false ∧ (k == 9) = false ∧ (k == 10) = false ∧ (k == 11) = false ∧ (k == 12) = false ∧ (k == 13) = false ∧ (k == 14) = false) := by
    by_cases h : k = 1 ∨ k = 2 ∨ k = 3 ∨ k = 4 ∨ k = 5 ∨ k = 6 ∨ k = 7 ∨ k = 8 ∨ k = 9 ∨ k = 10 ∨ k = 11 ∨ k = 12 ∨ k = 13 ∨ k = 14
    · rcases h with rfl | rfl | rfl | rfl | rfl | rfl | rfl | rfl | rfl | rfl | rfl | rfl | rfl | rfl <;> simp
    · simp only [not_or] at h; simp only [beq_eq_false_iff_ne, ne_eq]; simp [h]
  rcases hk with rfl | rfl | rfl | rfl | rfl | rfl | rfl | rfl | rfl | rfl | rfl | rfl | rfl | rfl | ⟨h1, h2, h3, h4, h5, h6, h7, h8, h9, h10, h11, h12, h13, h14⟩
  all_goals
    go_enter Try.func43, Try.ntmps43
    go_wp2_with fail
    go_ret2
    first | exact ⟨rfl, rfl⟩ | (refine ⟨?_, rfl⟩; simp only [beq_eq_false_iff_ne, ne_eq] at *; simp [insNm, insHas, *])
set_option maxHeartbeats 4000000 in
theorem lastLine_any (k : Int) (w : World) : Calls Try.prog 46 #[.int .u8 k] w fun e w' => e = .returned (.tuple #[.string (lastNm k), .string (lastHas k)]) ∧ w = w' := by
  have hk : k = 1 ∨ k = 2 ∨ k = 3 ∨ ((k == 1) = false ∧ (k == 2) = false ∧ (k == 3) = false) := by
    by_cases h : k = 1 ∨ k = 2 ∨ k = 3
    · rcases h with rfl | rfl | rfl <;> simp
    · simp only [not_or] at h; simp only [beq_eq_false_iff_ne, ne_eq]; simp [h]
  rcases hk with rfl | rfl | rfl | ⟨h1, h2, h3⟩
  all_goals
    go_enter Try.func46, Try.ntmps46
    go_wp2_with fail
    go_ret2
    first | exact ⟨rfl, rfl⟩ | (refine ⟨?_, rfl⟩; simp only [beq_eq_false_iff_ne, ne_eq] at *; simp [lastNm, lastHas, *])
set_option maxHeartbeats 4000000 in
theorem calcName_any (k : Int) (w : World) : Calls Try.prog 54 #[.int .u8 k] w fun e w' => e = .returned (.string (calcNm k)) ∧ w = w' := by
  have hk : k = 1 ∨ k = 2 ∨ k = 3 ∨ k = 4 ∨ k = 5 ∨ k = 6 ∨ k = 7 ∨ k = 8 ∨ k = 9 ∨ k = 10 ∨ k = 11 ∨ k = 12 ∨ k = 13 ∨ k = 14 ∨ ((k == 1) = false ∧ (k == 2) = false ∧ (k == 3) = false ∧ (k == 4) = false ∧ (k == 5) = false ∧ (k == 6) = false ∧ (k == 7) = false ∧ (k == 8) = false ∧ (k == 9) = false ∧ (k == 10) = false ∧ (k == 11) = false ∧ (k == 12) = false ∧ (k == 13) = false ∧ (k == 14) = false) := by
    by_cases h : k = 1 ∨ k = 2 ∨ k = 3 ∨ k = 4 ∨ k = 5 ∨ k = 6 ∨ k = 7 ∨ k = 8 ∨ k = 9 ∨ k = 10 ∨ k = 11 ∨ k = 12 ∨ k = 13 ∨ k = 14
    · rcases h with rfl | rfl | rfl | rfl | rfl | rfl | rfl | rfl | rfl | rfl | rfl | rfl | rfl | rfl <;> simp
    · simp only [not_or] at h; simp only [beq_eq_false_iff_ne, ne_eq]; simp [h]
  rcases hk with rfl | rfl | rfl | rfl | rfl | rfl | rfl | rfl | rfl | rfl | rfl | rfl | rfl | rfl | ⟨h1, h2, h3, h4, h5, h6, h7, h8, h9, h10, h11, h12, h13, h14⟩
  all_goals
    go_enter Try.func54, Try.ntmps54
    go_wp2_with fail
    go_ret
    first | exact ⟨rfl, rfl⟩ | (refine ⟨?_, rfl⟩; simp only [beq_eq_false_iff_ne, ne_eq] at *; simp [calcNm, *])
end Go.Proofs.Ytgkjhnghibpeoaa
namespace Go.Proofs.Ytgkjhnghibpeoaa
open Go.RowKit
set_option maxRecDepth 100000
attribute [local go_sem ↓] bld_eq bls_eq

set_option maxHeartbeats 4000000 in
theorem behind_any (i : In) (on : Nat) (w : World) : Calls Try.prog 40 #[i.val, .int .u8 (on : Int)] w fun e w' => e = .returned (.int .u8 (behI i.k on : Nat)) ∧ Below w.heap.size w w' := by
  obtain ⟨k, o, a, b, c, n⟩ := i
  show Calls _ _ #[.agg #[.int .u8 k, .int .u8 o, .int .i64 a, .int .i64 b, .int .i64 c, .int .i64 n], .int .u8 (on : Int)] _ _
  obtain ⟨p0, p1, p2, p3, p4, p5⟩ := own6 (MapKept.heap_alloc w (.cells #[.int .u8 k, .int .u8 o, .int .i64 a, .int .i64 b, .int .i64 c, .int .i64 n] 45)).1
  have hb := Lib.hid (below_box w (.cells #[.int .u8 k, .int .u8 o, .int .i64 a, .int .i64 b, .int .i64 c, .int .i64 n] 45))
  have hk : k = 13 ∨ k = 14 ∨ ((k == 13) = false ∧ (k == 14) = false) := by
    by_cases h : k = 13 ∨ k = 14
    · rcases h with rfl | rfl <;> simp
    · simp only [not_or] at h; simp only [beq_eq_false_iff_ne, ne_eq]; simp [h]
  rcases hk with rfl | rfl | ⟨h1, h2⟩
  all_goals
    go_enter Try.func40, Try.ntmps40
    go_wp2_with fail
    go_ret
    refine ⟨?_, hb.out⟩
    first | rfl | (simp only [beq_eq_false_iff_ne, ne_eq] at *; simp [behI, *])
set_option maxHeartbeats 4000000 in
theorem insSide_any (k : Int) (w : World) : Calls Try.prog 42 #[.int .u8 k] w fun e w' => e = .returned (.int .u8 (sideK k : Nat)) ∧ w = w' := by
  have hk : k = 7 ∨ k = 8 ∨ k = 9 ∨ k = 10 ∨ k = 11 ∨ k = 14 ∨ k = 13 ∨ ((k == 7) = false ∧ (k == 8) = false ∧ (k == 9) = false ∧ (k == 10) = false ∧ (k == 11) = false ∧ (k == 14) = false ∧ (k == 13) = false) := by
    by_cases h : k = 7 ∨ k = 8 ∨ k = 9 ∨ k = 10 ∨ k = 11 ∨ k = 14 ∨ k = 13
    · rcases h with rfl | rfl | rfl | rfl | rfl | rfl | rfl <;> simp
    · simp only [not_or] at h; simp only [beq_eq_false_iff_ne, ne_eq]; simp [h]
  rcases hk with rfl | rfl | rfl | rfl | rfl | rfl | rfl | ⟨h1, h2, h3, h4, h5, h6, h7⟩
  all_goals
    go_enter Try.func42, Try.ntmps42
    go_wp2_with fail
    go_ret
    first | exact ⟨rfl, rfl⟩ | (refine ⟨?_, rfl⟩; simp only [beq_eq_false_iff_ne, ne_eq] at *; simp [sideK, *])
/-- Numbers in a row of their own. -/
def Ints (w : World) (H : Nat) (s : Value) (l : List Int) : Prop := ∃ ao cap, s = .slice ao l.length cap ∧ (l = [] ∨ ∃ g, ao = some ⟨g, 0, none⟩ ∧ H ≤ g ∧ g < w.heap.size ∧ ∀ (j : Nat) y, l[j]? = some y → w.cell? ⟨g, j, none⟩ = some (.int .i64 y))
theorem ints_of {w W1 : World} (h : Below w.heap.size w W1) (us : List Value) (l : List Int) (hu : us = l.map fun y => .int .i64 y) (_ : l ≠ []) (hl : l.length = us.length) (g n : Nat) (hg : g = W1.heap.size) (hn : n = us.length) :
    Ints (W1.alloc (.cells us.toArray 3)) w.heap.size (.slice (some ⟨g, 0, none⟩) n n) l ∧ Below w.heap.size w (W1.alloc (.cells us.toArray 3)) := by
  subst hg hn
  refine ⟨⟨_, us.length, by rw [← hl], .inr ⟨_, rfl, h.size, by simp, fun j y hy => ?_⟩⟩, h.alloc h.size _⟩
  rw [Lib.cell_of_heap (MapKept.heap_alloc W1 (.cells us.toArray 3)).1]
  subst hu
  simp [hy]
/-- What next answers. -/
def NextE (b : Bk) (w : World) (e : Ending) (w' : World) : Prop := ∃ s, e = .returned s ∧ Ints w' w.heap.size s (nextL b) ∧ Below w.heap.size w w'
set_option maxHeartbeats 4000000 in
theorem next_any (b : Bk) (w : World) (hv : ∃ ao n cap, b.iv = .slice ao n cap) : Calls Try.prog 41 #[.agg #[b.iv, .int .u8 b.last, .int .i64 b.reg, .int .i64 b.yes, .int .i64 b.no]] w (NextE b w) := by
  obtain ⟨ao, n, cap, eiv⟩ := hv
  obtain ⟨iv, ins, last, reg, yes, no⟩ := b
  simp only at *
  subst eiv
  obtain ⟨p0, p1, p2, p3, p4⟩ := own5 (MapKept.heap_alloc w (.cells #[.slice ao n cap, .int .u8 last, .int .i64 reg, .int .i64 yes, .int .i64 no] 41)).1
  have hb := Lib.hid (below_box w (.cells #[.slice ao n cap, .int .u8 last, .int .i64 reg, .int .i64 yes, .int .i64 no] 41))
  have e1 := bls_of 26 3 1 1 #[(0, .int .i64 yes)] #[.int .i64 yes] (by kernel_rfl) (by kernel_rfl) (by kernel_rfl) (by decide) (by decide) (by kernel_rfl) (by kernel_rfl) (w.alloc (.cells #[.slice ao n cap, .int .u8 last, .int .i64 reg, .int .i64 yes, .int .i64 no] 41))
  have e2 := bls_of 26 3 2 1 #[(0, .int .i64 yes), (1, .int .i64 no)] #[.int .i64 yes, .int .i64 no] (by kernel_rfl) (by kernel_rfl) (by kernel_rfl) (by decide) (by decide) (by kernel_rfl) (by kernel_rfl) (w.alloc (.cells #[.slice ao n cap, .int .u8 last, .int .i64 reg, .int .i64 yes, .int .i64 no] 41))
  have q1 := Lib.hid (ints_of hb.out (.int .i64 yes :: []) [yes] (by simp) (by simp) rfl (w.heap.size + 1) 1 (by simp) rfl)
  have q2 := Lib.hid (ints_of hb.out (.int .i64 yes :: .int .i64 no :: []) [yes, no] (by simp) (by simp) rfl (w.heap.size + 1) 2 (by simp) rfl)
  have hk : last = 1 ∨ last = 2 ∨ ((last == 1) = false ∧ (last == 2) = false) := by
    by_cases h : last = 1 ∨ last = 2
    · rcases h with rfl | rfl <;> simp
    · simp only [not_or] at h; simp only [beq_eq_false_iff_ne, ne_eq]; simp [h]
  rcases hk with rfl | rfl | ⟨h1, h2⟩
  · clear e2 q2
    go_enter Try.func41, Try.ntmps41
    go_wp2_with fail
    go_ret
    exact ⟨_, rfl, q1.out⟩
  · clear e1 q1
    go_enter Try.func41, Try.ntmps41
    go_wp2_with fail
    go_ret
    exact ⟨_, rfl, q2.out⟩
  · clear e1 q1 e2 q2
    go_enter Try.func41, Try.ntmps41
    go_wp2_with fail
    go_ret
    refine ⟨_, rfl, ⟨none, 0, ?_, .inl ?_⟩, hb.out⟩ <;> (simp only [beq_eq_false_iff_ne, ne_eq] at *; simp [nextL, *])
end Go.Proofs.Ytgkjhnghibpeoaa
namespace Go.Proofs.Ytgkjhnghibpeoaa
open Go.RowKit
set_option maxRecDepth 100000
attribute [local go_sem ↓] bld_eq bls_eq

set_option maxHeartbeats 8000000 in
theorem tooLong_any (B : Nat) (g : Gr) (w : World) (hI : GIn w B g) (hBw : B ≤ w.heap.size) :
    Calls Try.prog 37 #[.agg #[g.rv, .int .i64 g.sites, g.bv]] w fun e w' => e = .returned (.bool (longB 8192 g.blocks)) ∧ Below w.heap.size w w' := by
  obtain ⟨Y, hY⟩ : ∃ Y, Y = longB 8192 g.blocks := ⟨_, rfl⟩
  rw [← hY]
  have r2 := hI.blies.room
  obtain ⟨ro, rc, er, hrl, -⟩ := hI.rlies.form
  obtain ⟨bo, bcp, eb, hbl, hbg⟩ := hI.blies.form
  have HBL := Lib.hid hI.blies
  have HBI := Lib.hid hI.blocks
  clear hI
  obtain ⟨rv, refs, sites, bv, blocks⟩ := g
  simp only at *
  subst er eb
  obtain ⟨N1, hN1⟩ : ∃ N, N = refs.length := ⟨_, rfl⟩
  obtain ⟨N2, hN2⟩ : ∃ N, N = blocks.length := ⟨_, rfl⟩
  rw [← hN1, ← hN2]
  rw [← hN2] at hbl r2 hbg HBL
  obtain ⟨W0, hW0⟩ : ∃ W0, W0 = w.alloc (.cells #[.slice ro N1 rc, .int .i64 sites, .slice bo N2 bcp] 25) := ⟨_, rfl⟩
  have hB0 : Below w.heap.size w W0 := by rw [hW0]; exact below_box w _
  have hlt0 : w.heap.size + 1 = W0.heap.size := by rw [hW0]; simp
  have hO : W0.heap[w.heap.size]? = some (.cells #[.slice ro N1 rc, .int .i64 sites, .slice bo N2 bcp] 25 (0, 0)) := by rw [hW0]; exact (MapKept.heap_alloc _ _).1
  obtain ⟨q0, q1, q2⟩ := own3 hO
  rw [hW0] at q0 q1 q2
  have HN2 := Lib.hid hN2
  have HG2 := Lib.hid hbg
  have HB0 := Lib.hid hB0
  have HZ0 := Lib.hid hlt0
  have HY := Lib.hid hY
  have HW0 := Lib.hid hW0
  clear hN1 hN2 hbg hB0 hlt0 hO hW0 hY hrl
  go_enter Try.func37, Try.ntmps37
  go_wp2_with fail
  rw [← HW0.out]
  clear q0 q1 q2
  go_loopw [3, 9] (fun m q wr => ∃ k : Nat, k ≤ N2 ∧ q = .int .i64 k ∧ ∃ r : Int, m = .int .i64 r ∧ 0 ≤ r ∧ r ≤ 8192 ∧ Hid (Y = longB r (blocks.drop k)) ∧ Below W0.heap.size W0 wr) (fun _ q _ => N2 - (intOf q).toNat)
  case atStart => exact ⟨0, by omega, rfl, 8192, rfl, by omega, by omega, HY, Below.refl _ _⟩
  case round =>
    obtain ⟨k, hkN, rfl, r, rfl, hr0, hr1, HD, hB⟩ := hrel
    have hsr := hB.size
    have hBw' : Below w.heap.size w wr := HB0.out.trans (hB.mono (by have := HZ0.out; omega))
    by_cases hlt2 : k < N2
    · obtain ⟨g, off, rfl, hg⟩ := HG2.out (by omega)
      have hka : k < blocks.length := by rw [← HN2.out]; exact hlt2
      have hat := ((HBL.out.below (hBw'.mono hBw)).at rfl k hka).2
      have ha := HBI.out _ (List.getElem_mem hka)
      have hd := HD.out
      rw [List.drop_eq_getElem_cons hka] at hd
      generalize blocks[k] = a at hat ha hd
      have hgs : g < wr.heap.size := by have := HZ0.out; omega
      obtain ⟨p0, p1, p2, p3, p4⟩ := bc hat
      obtain ⟨ao, ac, ea, -⟩ := ha.lies.form
      have hra := ha.lies.room
      rw [ea] at p0
      rw [longB] at hd
      obtain ⟨NA, hNA⟩ : ∃ N, N = a.ins.length := ⟨_, rfl⟩
      rw [← hNA] at p0 hra hd
      by_cases hlo : r < (NA : Int)
      · rw [if_pos hlo] at hd
        have HD2 := Lib.hid hd
        have HB9 := Lib.hid (hBw'.alloc (o := .cells #[.slice ao NA ac, .int .u8 a.last, .int .i64 a.reg, .int .i64 a.yes, .int .i64 a.no] 41) (by have := hBw'.size; omega))
        clear hka hat ha ea hB hBw' hd HD hNA
        go_wp2_with fail
        go_ret
        exact ⟨by rw [HD2.out]; rfl, HB9.out⟩
      · rw [if_neg hlo] at hd
        have HD2 := Lib.hid hd
        have HB := Lib.hid (hB.alloc (o := .cells #[.slice ao NA ac, .int .u8 a.last, .int .i64 a.reg, .int .i64 a.yes, .int .i64 a.no] 41) hsr)
        clear hka hat ha ea hB hBw' hd HD hNA
        go_wp2_with fail
        go_roundw
        case rel => exact ⟨k + 1, by omega, by go_num, r - (NA : Int), by go_num, by omega, by omega, HD2, HB.out⟩
        case measure => simp [intOf]; omega
    · have hd := HD.out
      rw [List.drop_eq_nil_of_le (by rw [← HN2.out]; omega)] at hd
      have HD2 := Lib.hid (show Y = false from hd)
      have HB9 := Lib.hid hBw'
      clear hB hBw' hd HD
      go_wp2_with fail
      go_ret
      exact ⟨by rw [HD2.out]; rfl, HB9.out⟩
end Go.Proofs.Ytgkjhnghibpeoaa
namespace Go.Proofs.Ytgkjhnghibpeoaa
open Go.RowKit
set_option maxRecDepth 100000
attribute [local go_sem ↓] bld_eq bls_eq

set_option maxHeartbeats 8000000 in
theorem checkSizes_any (B : Nat) (g : Gr) (w : World) (hI : GIn w B g) (hBw : B ≤ w.heap.size) :
    Calls Try.prog 31 #[.agg #[g.rv, .int .i64 g.sites, g.bv]] w fun e w' => e = .returned (.int .i64 (sizesE g)) ∧ Below w.heap.size w w' := by
  obtain ⟨Y, hY⟩ : ∃ Y, Y = sizesE g := ⟨_, rfl⟩
  rw [← hY]
  unfold sizesE at hY
  have r1 := hI.rlies.room
  have r2 := hI.blies.room
  have r3 := hI.sites
  obtain ⟨ro, rc, er, hrl, -⟩ := hI.rlies.form
  obtain ⟨bo, bcp, eb, hbl, -⟩ := hI.blies.form
  have HT := Lib.hid (fun (u : World) (hu : Below w.heap.size w u) => tooLong_any B g u (hI.keeps (hu.mono hBw)) (Nat.le_trans hBw hu.size))
  clear hI
  obtain ⟨rv, refs, sites, bv, blocks⟩ := g
  simp only at *
  subst er eb
  generalize longB 8192 blocks = LB at *
  obtain ⟨N1, hN1⟩ : ∃ N, N = refs.length := ⟨_, rfl⟩
  obtain ⟨N2, hN2⟩ : ∃ N, N = blocks.length := ⟨_, rfl⟩
  rw [← hN1, ← hN2] at HT hY
  rw [← hN1, ← hN2]
  rw [← hN1] at r1
  rw [← hN2] at r2
  obtain ⟨W0, hW0⟩ : ∃ W0, W0 = w.alloc (.cells #[.slice ro N1 rc, .int .i64 sites, .slice bo N2 bcp] 25) := ⟨_, rfl⟩
  have hB0 : Below w.heap.size w W0 := by rw [hW0]; exact below_box w _
  have hO : W0.heap[w.heap.size]? = some (.cells #[.slice ro N1 rc, .int .i64 sites, .slice bo N2 bcp] 25 (0, 0)) := by rw [hW0]; exact (MapKept.heap_alloc _ _).1
  have hsz : w.heap.size < W0.heap.size := by rw [hW0]; simp
  have HZ := Lib.hid hsz
  have HO := Lib.hid hO
  have HC := Lib.hid (HT.out W0 hB0)
  obtain ⟨q0, q1, q2⟩ := own3 hO
  rw [hW0] at q0 q1 q2
  have HB0 := Lib.hid hB0
  have HW0 := Lib.hid hW0
  clear hN1 hN2 hB0 hO hW0 HT hrl hbl hsz
  by_cases a1 : 1024 < N1
  · rw [if_pos (.inl a1)] at hY
    have HY := Lib.hid hY
    clear hY
    go_enter Try.func31, Try.ntmps31
    go_wp2_with fail
    go_ret
    exact ⟨by rw [HY.out]; rfl, by rw [← HW0.out]; exact HB0.out⟩
  by_cases a2 : 4096 < N2
  · rw [if_pos (.inr (.inl a2))] at hY
    have HY := Lib.hid hY
    clear hY
    go_enter Try.func31, Try.ntmps31
    go_wp2_with fail
    go_ret
    exact ⟨by rw [HY.out]; rfl, by rw [← HW0.out]; exact HB0.out⟩
  by_cases a3 : 8192 < sites
  · rw [if_pos (.inr (.inr a3))] at hY
    have HY := Lib.hid hY
    clear hY
    go_enter Try.func31, Try.ntmps31
    go_wp2_with fail
    go_ret
    exact ⟨by rw [HY.out]; rfl, by rw [← HW0.out]; exact HB0.out⟩
  rw [if_neg (by omega)] at hY
  have HY := Lib.hid hY
  clear hY
  go_enter Try.func31, Try.ntmps31
  go_wp2_with fail
  rw [← HW0.out]
  refine HC.out.mono ?_; rintro e w2 ⟨rfl, hb2⟩
  have HB2 := Lib.hid (HB0.out.trans (hb2.mono (Nat.le_of_lt HZ.out)))
  obtain ⟨q0, q1, q2⟩ := own3 ((hb2.block w.heap.size HZ.out).trans HO.out)
  have hz2 : w.heap.size < w2.heap.size := Nat.lt_of_lt_of_le HZ.out hb2.size
  clear hb2
  cases LB with
  | true =>
    go_wp2_with fail
    go_ret
    exact ⟨by rw [HY.out]; rfl, HB2.out⟩
  | false =>
    have hY := HY.out
    rw [if_neg (by decide)] at hY
    by_cases a4 : N2 = 0
    · rw [if_pos (.inl a4)] at hY
      subst a4
      have HY2 := Lib.hid hY
      clear hY HY
      go_wp2_with fail
      go_ret
      exact ⟨by rw [HY2.out]; rfl, HB2.out⟩
    · by_cases a5 : sites < 0
      · rw [if_pos (.inr a5)] at hY
        have HY2 := Lib.hid hY
        clear hY HY
        go_wp2_with fail
        go_ret
        exact ⟨by rw [HY2.out]; rfl, HB2.out⟩
      · rw [if_neg (by omega)] at hY
        have HY2 := Lib.hid hY
        have h4 : (((N2 : Nat) : Int) == 0) = false := by simp only [beq_eq_false_iff_ne, ne_eq]; omega
        clear hY HY
        go_wp2_with fail
        go_ret
        exact ⟨by rw [HY2.out]; rfl, HB2.out⟩
end Go.Proofs.Ytgkjhnghibpeoaa
