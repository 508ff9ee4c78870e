/- What an instruction asks and changes; the blocks to which one leads. -/
import Derived.Test.YtgkjhnghibpeoaaDoorRows
import Derived.Test.YtgkjhnghibpeoaaDoorLvOps
import Derived.Test.YtgkjhnghibpeoaaDoorLvFits
import Derived.Test.YtgkjhnghibpeoaaDoorFlVisit
import Derived.Test.YtgkjhnghibpeoaaDoorIrLeaf
import Derived.Test.YtgkjhnghibpeoaaDoorIrNew
import Derived.Test.YtgkjhnghibpeoaaDoorParseOrder
import Derived.LoopTactic
import Derived.LoopN
import Derived.Deep.LoopGhost
import Derived.WalkKit
import Derived.WalkSpells
import Derived.WalkLawsBesides
import Derived.Lib.Hide
import Derived.OrdersHeld
import Derived.Deep.RegionHeld
import Derived.Deep.DrawnRows
import Derived.RegionTactic
import Derived.Deep.RegionHeld3
import Derived.IntWalk
import Derived.Deep.QuietTactic
import Derived.BigQuiet
namespace Go.Proofs.YtgkjhnghibpeoaaDoor
open Go.RowKit
set_option maxRecDepth 1000000
attribute [local go_sem ↓] bld_eq bls_eq

set_option maxHeartbeats 4000000 in
theorem vnext_any (b : Bk) (w : World) (hv : ∃ ao n cap, b.iv = .slice ao n cap) : Calls Tryd.prog 30 #[.agg #[b.iv, .int .u8 b.last, .int .i64 b.reg, .int .i64 b.yes, .int .i64 b.no]] w (NxE b w) := by
  obtain ⟨ao, n, cap, eiv⟩ := hv
  obtain ⟨iv, ins, last, reg, yes, no⟩ := b
  simp only at *
  subst eiv
  obtain ⟨U, hU⟩ : ∃ U, U = w.alloc (.cells #[.slice ao n cap, .int .u8 last, .int .i64 reg, .int .i64 yes, .int .i64 no] 36) := ⟨_, rfl⟩
  obtain ⟨p0, p1, p2, p3, p4⟩ := own5 (MapKept.heap_alloc w (.cells #[.slice ao n cap, .int .u8 last, .int .i64 reg, .int .i64 yes, .int .i64 no] 36)).1
  have hb : Below w.heap.size w U := by rw [hU]; exact below_box w _
  have hz : U.heap.size = w.heap.size + 1 := by rw [hU]; simp
  have e1 := bls_of 37 3 1 1 #[(0, .int .i64 yes)] #[.int .i64 yes] (by kernel_rfl) (by kernel_rfl) (by kernel_rfl) (by decide) (by decide) (by kernel_rfl) (by kernel_rfl) U
  have e2 := bls_of 37 3 2 1 #[(0, .int .i64 yes), (1, .int .i64 no)] #[.int .i64 yes, .int .i64 no] (by kernel_rfl) (by kernel_rfl) (by kernel_rfl) (by decide) (by decide) (by kernel_rfl) (by kernel_rfl) U
  have q1 := Lib.hid (show NxE ⟨.slice ao n cap, ins, last, reg, yes, no⟩ w (.returned (.slice (some ⟨w.heap.size + 1, 0, none⟩) 1 1)) (U.alloc (.cells #[.int .i64 yes] 3)) ∨ ¬ (last ≠ 3 ∧ (last = 1 ∨ yes = no)) from by
    by_cases h : last ≠ 3 ∧ (last = 1 ∨ yes = no)
    · refine .inl ⟨_, rfl, ?_, hb.alloc (by omega) _⟩
      have e : nextF ⟨.slice ao n cap, ins, last, reg, yes, no⟩ = [yes] := by unfold nextF; rw [if_neg h.1, if_pos h.2]
      rw [e]
      have h2 := (MapKept.heap_alloc U (.cells (intA [yes]) 3)).1; rw [hz] at h2; exact row_lit (W := w) (l := [yes]) h2 (by omega) 1
    · exact .inr h)
  have q2 := Lib.hid (show NxE ⟨.slice ao n cap, ins, last, reg, yes, no⟩ w (.returned (.slice (some ⟨w.heap.size + 1, 0, none⟩) 2 2)) (U.alloc (.cells #[.int .i64 yes, .int .i64 no] 3)) ∨ ¬ (last ≠ 3 ∧ ¬ (last = 1 ∨ yes = no)) from by
    by_cases h : last ≠ 3 ∧ ¬ (last = 1 ∨ yes = no)
    · refine .inl ⟨_, rfl, ?_, hb.alloc (by omega) _⟩
      have e : nextF ⟨.slice ao n cap, ins, last, reg, yes, no⟩ = [yes, no] := by unfold nextF; rw [if_neg h.1, if_neg h.2]
      rw [e]
      have h2 := (MapKept.heap_alloc U (.cells (intA [yes, no]) 3)).1; rw [hz] at h2; exact row_lit (W := w) (l := [yes, no]) h2 (by omega) 2
    · exact .inr h)
  have q3 := Lib.hid (show last = 3 → NxE ⟨.slice ao n cap, ins, last, reg, yes, no⟩ w (.returned (.slice none 0 0)) U from fun h => by
      have e : nextF ⟨.slice ao n cap, ins, last, reg, yes, no⟩ = [] := by unfold nextF; rw [if_pos h]
      exact ⟨_, rfl, by rw [e]; exact ⟨none, 0, rfl, fun h => by simp at h⟩, hb⟩)
  have HU := Lib.hid hU
  rw [hU] at e1 e2
  clear hb hz hU
  by_cases h3 : last = 3
  · have d3 : (last == 3) = true := by simpa using h3
    replace h3 := Lib.hid h3
    clear e1 e2 q1 q2
    go_enter Tryd.func30, Tryd.ntmps30
    go_wp2_with fail
    go_ret
    rw [← HU.out]
    exact q3.out h3.out
  · have d3 : (last == 3) = false := by simpa using h3
    replace h3 := Lib.hid h3
    clear q3
    by_cases h1 : last = 1
    · have d1 : (last == 1) = true := by simpa using h1
      replace h1 := Lib.hid h1
      clear e2 q2
      go_enter Tryd.func30, Tryd.ntmps30
      go_wp2_with fail
      go_ret
      rw [← HU.out]
      rcases q1.out with q | q
      · exact q
      · exact absurd ⟨h3.out, .inl h1.out⟩ q
    · have d1 : (last == 1) = false := by simpa using h1
      replace h1 := Lib.hid h1
      by_cases h2 : yes = no
      · have d2 : (yes == no) = true := by simpa using h2
        replace h2 := Lib.hid h2
        clear e2 q2
        go_enter Tryd.func30, Tryd.ntmps30
        go_wp2_with fail
        go_ret
        rw [← HU.out]
        rcases q1.out with q | q
        · exact q
        · exact absurd ⟨h3.out, .inr h2.out⟩ q
      · have d2 : (yes == no) = false := by simpa using h2
        replace h2 := Lib.hid h2
        clear e1 q1
        go_enter Tryd.func30, Tryd.ntmps30
        go_wp2_with fail
        go_ret
        rw [← HU.out]
        rcases q2.out with q | q
        · exact q
        · exact absurd ⟨h3.out, fun q => q.elim h1.out h2.out⟩ q


set_option maxHeartbeats 8000000 in
theorem changed_any (i : In) (w : World) : Calls Tryd.prog 36 #[i.val] w fun e w' => e = .returned (.int .i64 (wrI i)) ∧ Below w.heap.size w w' := by
  obtain ⟨k, o, a, b, c, n⟩ := i
  obtain ⟨U, hU⟩ : ∃ U, U = w.alloc (.cells #[.int .u8 k, .int .u8 o, .int .i64 a, .int .i64 b, .int .i64 c, .int .i64 n] 46) := ⟨_, rfl⟩
  have HB := Lib.hid (show Below w.heap.size w U from by rw [hU]; exact below_box w _)
  have h6 := (MapKept.heap_alloc w (.cells #[.int .u8 k, .int .u8 o, .int .i64 a, .int .i64 b, .int .i64 c, .int .i64 n] 46)).1
  have c0 := show (w.alloc (.cells #[.int .u8 k, .int .u8 o, .int .i64 a, .int .i64 b, .int .i64 c, .int .i64 n] 46)).cell? ⟨w.heap.size, 0, none⟩ = some (.int .u8 k) from by rw [Lib.cell_of_heap h6]; rfl
  have c2 := show (w.alloc (.cells #[.int .u8 k, .int .u8 o, .int .i64 a, .int .i64 b, .int .i64 c, .int .i64 n] 46)).cell? ⟨w.heap.size, 2, none⟩ = some (.int .i64 a) from by rw [Lib.cell_of_heap h6]; rfl
  have HU := Lib.hid hU
  clear hU h6
  unfold In.val
  dsimp only
  by_cases hk : k = 1 ∨ k = 2 ∨ k = 3 ∨ k = 6 ∨ k = 7 ∨ k = 8 ∨ k = 10
  · have e : wrI ⟨k, o, a, b, c, n⟩ = a := by unfold wrI; rw [if_pos hk]
    rw [e]
    clear e
    rcases hk with rfl | rfl | rfl | rfl | rfl | rfl | rfl
    all_goals
      go_enter Tryd.func36, Tryd.ntmps36
      go_wp2_with fail
      go_ret
      rw [← HU.out]
      exact ⟨rfl, HB.out⟩
  · have e : wrI ⟨k, o, a, b, c, n⟩ = -1 := by unfold wrI; rw [if_neg hk]
    rw [e]
    simp only [not_or] at hk
    have d1 : (k == 1) = false := by simpa using hk.1
    have d2 : (k == 2) = false := by simpa using hk.2.1
    have d3 : (k == 3) = false := by simpa using hk.2.2.1
    have d6 : (k == 6) = false := by simpa using hk.2.2.2.1
    have d7 : (k == 7) = false := by simpa using hk.2.2.2.2.1
    have d8 : (k == 8) = false := by simpa using hk.2.2.2.2.2.1
    have d10 : (k == 10) = false := by simpa using hk.2.2.2.2.2.2
    clear hk e c2
    go_enter Tryd.func36, Tryd.ntmps36
    go_wp2_with fail
    go_ret
    rw [← HU.out]
    exact ⟨rfl, HB.out⟩

def askV (i : In) : Value := .agg #[.int .i64 (ask0 i), .int .i64 (ask1 i), .int .i64 (ask2 i)]
set_option maxHeartbeats 8000000 in
theorem asked_any (i : In) (w : World) : Calls Tryd.prog 41 #[i.val] w fun e w' => e = .returned (askV i) ∧ Below w.heap.size w w' := by
  obtain ⟨k, o, a, b, c, n⟩ := i
  obtain ⟨U, hU⟩ : ∃ U, U = ((w.alloc (.cells #[.int .u8 k, .int .u8 o, .int .i64 a, .int .i64 b, .int .i64 c, .int .i64 n] 46)).alloc (.cells #[.int .i64 0, .int .i64 0, .int .i64 0] 78)) := ⟨_, rfl⟩
  have z0 : (w.alloc (.cells #[.int .u8 k, .int .u8 o, .int .i64 a, .int .i64 b, .int .i64 c, .int .i64 n] 46)).heap.size = w.heap.size + 1 := by simp
  have HB := Lib.hid (show Below w.heap.size w U from by rw [hU]; exact (below_box w _).alloc (by omega) _)
  have h6 : U.heap[w.heap.size]? = some (.cells #[.int .u8 k, .int .u8 o, .int .i64 a, .int .i64 b, .int .i64 c, .int .i64 n] 46 (0, 0)) := by rw [hU]; exact (Below.heap_alloc _ _ _ (by omega)).trans (MapKept.heap_alloc w _).1
  have h7 : U.heap[w.heap.size + 1]? = some (.cells #[.int .i64 0, .int .i64 0, .int .i64 0] 78 (0, 0)) := by
    have := (MapKept.heap_alloc (w.alloc (.cells #[.int .u8 k, .int .u8 o, .int .i64 a, .int .i64 b, .int .i64 c, .int .i64 n] 46)) (.cells #[.int .i64 0, .int .i64 0, .int .i64 0] 78)).1
    rw [z0] at this; rw [hU]; exact this
  have c0 : U.cell? ⟨w.heap.size, 0, none⟩ = some (.int .u8 k) := by rw [Lib.cell_of_heap h6]; rfl
  have c2 : U.cell? ⟨w.heap.size, 2, none⟩ = some (.int .i64 a) := by rw [Lib.cell_of_heap h6]; rfl
  have c3 : U.cell? ⟨w.heap.size, 3, none⟩ = some (.int .i64 b) := by rw [Lib.cell_of_heap h6]; rfl
  have c4 : U.cell? ⟨w.heap.size, 4, none⟩ = some (.int .i64 c) := by rw [Lib.cell_of_heap h6]; rfl
  have HQ := Lib.hid h7
  have HU := Lib.hid hU
  clear hU h6 h7 z0
  unfold In.val
  dsimp only
  by_cases h1 : k = 2 ∨ k = 4 ∨ k = 5 ∨ k = 12
  · have e : askV ⟨k, o, a, b, c, n⟩ = .agg #[.int .i64 b, .int .i64 (-1), .int .i64 (-1)] := by
      unfold askV ask0 ask1 ask2; dsimp only; rw [if_pos (by omega), if_neg (by omega), if_neg (by omega), if_neg (by omega)]
    rw [e]
    clear e
    rcases h1 with rfl | rfl | rfl | rfl
    all_goals
      have e1 := bld_of 78 #[(0, .int .i64 (b)), (1, .int .i64 (-1)), (2, .int .i64 (-1))] #[.int .i64 (b), .int .i64 (-1), .int .i64 (-1)] (by kernel_rfl)
      go_enter Tryd.func41, Tryd.ntmps41
      go_wp2_with (first
        | (rw [← HU.out])
        | (refine wpList_put rfl 78 (Operand.tmp 2) (Operand.tmp 12) rfl (w.heap.size + 1) 78 _ #[.int .i64 (b), .int .i64 (-1), .int .i64 (-1)] rfl rfl HQ.out rfl (by kernel_rfl) (by simp [Value.oneCell']) ?_))
      intro w5 hp5
      have HP := Lib.hid hp5
      clear hp5
      go_wp2_with fail
      refine bodyPost_ret (v := .agg #[.int .i64 (b), .int .i64 (-1), .int .i64 (-1)]) (results_cell_row rfl _ _ (w.heap.size + 1) 78 _ (0, 0) _ rfl HP.out.at_b Tryd.underlying78 rfl (by kernel_rfl)) rfl ?_
      exact ⟨rfl, HP.out.below HB.out (by omega)⟩
  by_cases h2 : k = 3 ∨ k = 8 ∨ k = 10
  · have e : askV ⟨k, o, a, b, c, n⟩ = .agg #[.int .i64 b, .int .i64 c, .int .i64 (-1)] := by
      unfold askV ask0 ask1 ask2; dsimp only; rw [if_pos (by omega), if_pos (by omega), if_neg (by omega)]
    rw [e]
    clear e h1
    rcases h2 with rfl | rfl | rfl
    all_goals
      have e1 := bld_of 78 #[(0, .int .i64 (b)), (1, .int .i64 (c)), (2, .int .i64 (-1))] #[.int .i64 (b), .int .i64 (c), .int .i64 (-1)] (by kernel_rfl)
      go_enter Tryd.func41, Tryd.ntmps41
      go_wp2_with (first
        | (rw [← HU.out])
        | (refine wpList_put rfl 78 (Operand.tmp 2) (Operand.tmp 21) rfl (w.heap.size + 1) 78 _ #[.int .i64 (b), .int .i64 (c), .int .i64 (-1)] rfl rfl HQ.out rfl (by kernel_rfl) (by simp [Value.oneCell']) ?_))
      intro w5 hp5
      have HP := Lib.hid hp5
      clear hp5
      go_wp2_with fail
      refine bodyPost_ret (v := .agg #[.int .i64 (b), .int .i64 (c), .int .i64 (-1)]) (results_cell_row rfl _ _ (w.heap.size + 1) 78 _ (0, 0) _ rfl HP.out.at_b Tryd.underlying78 rfl (by kernel_rfl)) rfl ?_
      exact ⟨rfl, HP.out.below HB.out (by omega)⟩
  by_cases h3 : k = 9 ∨ k = 11
  · have e : askV ⟨k, o, a, b, c, n⟩ = .agg #[.int .i64 a, .int .i64 b, .int .i64 c] := by
      unfold askV ask0 ask1 ask2; dsimp only; rw [if_neg (by omega), if_pos (by omega), if_neg (by omega), if_pos (by omega), if_pos (by omega)]
    rw [e]
    clear e h1 h2
    rcases h3 with rfl | rfl
    all_goals
      have e1 := bld_of 78 #[(0, .int .i64 (a)), (1, .int .i64 (b)), (2, .int .i64 (c))] #[.int .i64 (a), .int .i64 (b), .int .i64 (c)] (by kernel_rfl)
      go_enter Tryd.func41, Tryd.ntmps41
      go_wp2_with (first
        | (rw [← HU.out])
        | (refine wpList_put rfl 78 (Operand.tmp 2) (Operand.tmp 31) rfl (w.heap.size + 1) 78 _ #[.int .i64 (a), .int .i64 (b), .int .i64 (c)] rfl rfl HQ.out rfl (by kernel_rfl) (by simp [Value.oneCell']) ?_))
      intro w5 hp5
      have HP := Lib.hid hp5
      clear hp5
      go_wp2_with fail
      refine bodyPost_ret (v := .agg #[.int .i64 (a), .int .i64 (b), .int .i64 (c)]) (results_cell_row rfl _ _ (w.heap.size + 1) 78 _ (0, 0) _ rfl HP.out.at_b Tryd.underlying78 rfl (by kernel_rfl)) rfl ?_
      exact ⟨rfl, HP.out.below HB.out (by omega)⟩
  have e : askV ⟨k, o, a, b, c, n⟩ = .agg #[.int .i64 (-1), .int .i64 (-1), .int .i64 (-1)] := by
    unfold askV ask0 ask1 ask2; dsimp only; rw [if_neg (by omega), if_neg (by omega), if_neg (by omega), if_neg (by omega), if_neg (by omega)]
  rw [e]
  have d2 : (k == 2) = false := by simp only [beq_eq_false_iff_ne, ne_eq]; omega
  have d4 : (k == 4) = false := by simp only [beq_eq_false_iff_ne, ne_eq]; omega
  have d5 : (k == 5) = false := by simp only [beq_eq_false_iff_ne, ne_eq]; omega
  have d12 : (k == 12) = false := by simp only [beq_eq_false_iff_ne, ne_eq]; omega
  have d3 : (k == 3) = false := by simp only [beq_eq_false_iff_ne, ne_eq]; omega
  have d8 : (k == 8) = false := by simp only [beq_eq_false_iff_ne, ne_eq]; omega
  have d10 : (k == 10) = false := by simp only [beq_eq_false_iff_ne, ne_eq]; omega
  have d9 : (k == 9) = false := by simp only [beq_eq_false_iff_ne, ne_eq]; omega
  have d11 : (k == 11) = false := by simp only [beq_eq_false_iff_ne, ne_eq]; omega
  clear e h1 h2 h3 c2 c3 c4
  have e1 := bld_of 78 #[(0, .int .i64 (-1)), (1, .int .i64 (-1)), (2, .int .i64 (-1))] #[.int .i64 (-1), .int .i64 (-1), .int .i64 (-1)] (by kernel_rfl)
  go_enter Tryd.func41, Tryd.ntmps41
  go_wp2_with (first
    | (rw [← HU.out])
    | (refine wpList_put rfl 78 (Operand.tmp 2) (Operand.tmp 32) rfl (w.heap.size + 1) 78 _ #[.int .i64 (-1), .int .i64 (-1), .int .i64 (-1)] rfl rfl HQ.out rfl (by kernel_rfl) (by simp [Value.oneCell']) ?_))
  intro w5 hp5
  have HP := Lib.hid hp5
  clear hp5
  go_wp2_with fail
  refine bodyPost_ret (v := .agg #[.int .i64 (-1), .int .i64 (-1), .int .i64 (-1)]) (results_cell_row rfl _ _ (w.heap.size + 1) 78 _ (0, 0) _ rfl HP.out.at_b Tryd.underlying78 rfl (by kernel_rfl)) rfl ?_
  exact ⟨rfl, HP.out.below HB.out (by omega)⟩
end Go.Proofs.YtgkjhnghibpeoaaDoor
