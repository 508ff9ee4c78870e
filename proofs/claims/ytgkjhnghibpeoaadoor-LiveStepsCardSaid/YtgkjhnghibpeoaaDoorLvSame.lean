/- What the law asks beside the program. -/
import Derived.Test.YtgkjhnghibpeoaaDoorRows
import Derived.Test.YtgkjhnghibpeoaaDoorLvInn
import Derived.Test.YtgkjhnghibpeoaaDoorLvIns
import Derived.Test.YtgkjhnghibpeoaaDoorIrLeaf
import Derived.Test.YtgkjhnghibpeoaaDoorIrNew
import Derived.Test.YtgkjhnghibpeoaaDoorParseOrder
import Derived.LoopTactic
import Derived.LoopN
import Derived.Deep.LoopGhost
import Derived.WalkKit
import Derived.WalkSpells
import Derived.WalkLawsBesides
import Derived.Lib.Hide
import Derived.OrdersHeld
import Derived.Deep.RegionHeld
import Derived.Deep.DrawnRows
import Derived.RegionTactic
import Derived.Deep.RegionHeld3
import Derived.IntWalk
import Derived.Deep.QuietTactic
import Derived.BigQuiet
namespace Go.Proofs.YtgkjhnghibpeoaaDoor
open Go.RowKit
set_option maxRecDepth 1000000
attribute [local go_sem ↓] bld_eq bls_eq


set_option maxHeartbeats 8000000 in
theorem has_any (l : List Int) (v : Value) (lo : Nat) (n : Int) (w : World) (h : RowAt w lo v l) (hl : l.length ≤ 4096) :
    Calls Tryd.prog 12 #[v, .int .i64 n] w fun e w' => e = .returned (.bool (decide (n ∈ l))) ∧ w' = w := by
  obtain ⟨ao, cap, rfl⟩ := h.form
  obtain ⟨L, hL⟩ : ∃ L, L = l.length := ⟨_, rfl⟩
  have H := Lib.hid h
  have HL := Lib.hid hL
  rw [← hL] at hl ⊢
  clear h hL
  go_enter Tryd.func12, Tryd.ntmps12
  go_wp2_with fail
  go_loopw [5] (fun q wr => ∃ k : Nat, k ≤ L ∧ q = .int .i64 (k : Int) ∧ Hid (n ∉ l.take k) ∧ wr = w) (fun q _ => L - (intOf q).toNat)
  case atStart => exact ⟨0, Nat.zero_le _, rfl, Lib.hid (by simp), rfl⟩
  case round =>
    obtain ⟨k, hk, rfl, HK, hwv⟩ := hrel
    subst hwv
    by_cases hkl : k < L
    · have hkx : k < l.length := by rw [← HL.out]; exact hkl
      obtain ⟨gN, off, rfl, _, _, hc⟩ := H.out.get rfl hkx
      have hget : l[k]? = some l[k] := List.getElem?_eq_getElem hkx
      generalize l[k] = x at hc hget
      have HX := Lib.hid hget
      by_cases hx : x = n
      · subst hx
        have d : (x == x) = true := by simp
        clear hget
        go_wp2_with fail
        go_ret
        exact ⟨by rw [decide_eq_true (List.mem_of_getElem? HX.out)]; rfl, rfl⟩
      · have d : (x == n) = false := by simpa using hx
        have HQ := Lib.hid (show n ∉ l.take (k + 1) from by
          rw [List.take_add_one, hget]
          simp only [Option.toList_some, List.mem_append, List.mem_singleton, not_or]
          exact ⟨HK.out, fun q => hx q.symm⟩)
        clear hget hx
        go_wp2_with fail
        go_roundw
        case rel => exact ⟨k + 1, hkl, by go_num, HQ, trivial⟩
        case measure => simp [intOf]; omega
    · have hn : n ∉ l := by
        have := HK.out
        rwa [List.take_of_length_le (by rw [← HL.out]; omega)] at this
      have HN := Lib.hid hn
      clear hn
      go_wp2_with fail
      go_ret
      exact ⟨by rw [decide_eq_false HN.out]; rfl, rfl⟩

set_option maxHeartbeats 8000000 in
theorem writes_any (i : In) (w : World) : Calls Tryd.prog 11 #[i.val] w fun e w' => e = .returned (.int .i64 (wrI i)) ∧ Below w.heap.size w w' := by
  obtain ⟨k, o, a, b, c, n⟩ := i
  obtain ⟨U, hU⟩ : ∃ U, U = w.alloc (.cells #[.int .u8 k, .int .u8 o, .int .i64 a, .int .i64 b, .int .i64 c, .int .i64 n] 46) := ⟨_, rfl⟩
  have hb := show Below w.heap.size w U from by rw [hU]; exact below_box w _
  have h6 : U.heap[w.heap.size]? = some (.cells #[.int .u8 k, .int .u8 o, .int .i64 a, .int .i64 b, .int .i64 c, .int .i64 n] 46 (0, 0)) := by rw [hU]; exact (MapKept.heap_alloc w _).1
  have hz : U.heap.size = w.heap.size + 1 := by rw [hU]; simp
  have c0 : U.cell? ⟨w.heap.size, 0, none⟩ = some (.int .u8 k) := by rw [Lib.cell_of_heap h6]; rfl
  have c2 : U.cell? ⟨w.heap.size, 2, none⟩ = some (.int .i64 a) := by rw [Lib.cell_of_heap h6]; rfl
  have c3 : U.cell? ⟨w.heap.size, 3, none⟩ = some (.int .i64 b) := by rw [Lib.cell_of_heap h6]; rfl
  have c4 : U.cell? ⟨w.heap.size, 4, none⟩ = some (.int .i64 c) := by rw [Lib.cell_of_heap h6]; rfl
  have HU := Lib.hid hU
  have HB := Lib.hid hb
  have HZ := Lib.hid hz
  clear hU h6 hz hb
  unfold In.val
  dsimp only
  by_cases hk : k = 1 ∨ k = 2 ∨ k = 3 ∨ k = 6 ∨ k = 7 ∨ k = 8 ∨ k = 10
  · have e : wrI ⟨k, o, a, b, c, n⟩ = a := by unfold wrI; rw [if_pos hk]
    rw [e]
    clear e
    rcases hk with rfl | rfl | rfl | rfl | rfl | rfl | rfl
    all_goals
      go_enter Tryd.func11, Tryd.ntmps11
      go_wp2_with (rw [← HU.out])
      go_ret
      exact ⟨rfl, HB.out⟩
  · have e : wrI ⟨k, o, a, b, c, n⟩ = -1 := by unfold wrI; rw [if_neg hk]
    rw [e]
    simp only [not_or] at hk
    have d1 : (k == 1) = false := by simpa using hk.1
    have d2 : (k == 2) = false := by simpa using hk.2.1
    have d3 : (k == 3) = false := by simpa using hk.2.2.1
    have d6 : (k == 6) = false := by simpa using hk.2.2.2.1
    have d7 : (k == 7) = false := by simpa using hk.2.2.2.2.1
    have d8 : (k == 8) = false := by simpa using hk.2.2.2.2.2.1
    have d10 : (k == 10) = false := by simpa using hk.2.2.2.2.2.2
    clear hk e c2 c3 c4
    go_enter Tryd.func11, Tryd.ntmps11
    go_wp2_with (rw [← HU.out])
    go_ret
    exact ⟨rfl, HB.out⟩

def readsL (i : In) : List Int := if i.k = 2 ∨ i.k = 4 ∨ i.k = 5 ∨ i.k = 12 then [i.b] else if i.k = 3 then [i.b, i.c] else if i.k = 8 ∨ i.k = 10 then (if i.c < 0 then [i.b] else [i.b, i.c]) else if i.k = 9 ∨ i.k = 11 then (if i.c < 0 then [i.a, i.b] else [i.a, i.b, i.c]) else []
theorem reads_asks {R : Nat} {i : In} (h : IFit R i) (r : Nat) : decide ((r : Int) ∈ readsL i) = asksI i r := by
  rw [Bool.eq_iff_iff]
  have h1 := h.r1
  have h2 := h.r2
  have hm : ¬ (r : Int) = -1 := by omega
  unfold Rg ask1 at h1
  unfold Rg ask2 at h2
  unfold asksI readsL ask0 ask1 ask2
  simp only [decide_eq_true_eq, Bool.or_eq_true]
  by_cases a1 : i.k = 2 ∨ i.k = 4 ∨ i.k = 5 ∨ i.k = 12
  · rw [if_pos a1, if_pos (by omega), if_neg (by omega), if_neg (by omega), if_neg (by omega)]
    simp [hm]
  · rw [if_neg a1]
    by_cases a2 : i.k = 3
    · rw [if_pos a2, if_pos (by omega), if_pos (by omega), if_neg (by omega)]
      simp [hm]
    · rw [if_neg a2]
      by_cases a3 : i.k = 8 ∨ i.k = 10
      · rw [if_pos (by omega)] at h1
        rw [if_pos a3]
        by_cases hc : i.c < 0
        · rw [if_pos hc, if_pos (by omega), if_pos (by omega), if_neg (by omega)]
          simp [hm]; omega
        · rw [if_neg hc, if_pos (by omega), if_pos (by omega), if_neg (by omega)]
          simp [hm]
      · rw [if_neg a3]
        by_cases a4 : i.k = 9 ∨ i.k = 11
        · rw [if_pos a4] at h2
          rw [if_pos a4]
          by_cases hc : i.c < 0
          · rw [if_pos hc, if_neg (by omega), if_pos (by omega), if_neg (by omega), if_pos (by omega), if_pos (by omega)]
            simp [hm]; omega
          · rw [if_neg hc, if_neg (by omega), if_pos (by omega), if_neg (by omega), if_pos (by omega), if_pos (by omega)]
            simp [hm]
        · rw [if_neg a4, if_neg (by omega), if_neg (by omega), if_neg (by omega), if_neg (by omega), if_neg (by omega)]
          simp [hm]
theorem made1 (x : Int) (u : World) : (bls 37 1 #[(0, .int .i64 x)]).run Tryd.prog u = .ok (.slice (some ⟨u.heap.size, 0, none⟩) 1 1) (u.alloc (.cells #[.int .i64 x] 3)) := bls_of 37 3 1 1 #[(0, .int .i64 x)] #[.int .i64 x] (by kernel_rfl) (by kernel_rfl) (by kernel_rfl) (by decide) (by decide) (by kernel_rfl) (by kernel_rfl) u
theorem made2 (x y : Int) (u : World) : (bls 37 2 #[(0, .int .i64 x), (1, .int .i64 y)]).run Tryd.prog u = .ok (.slice (some ⟨u.heap.size, 0, none⟩) 2 2) (u.alloc (.cells #[.int .i64 x, .int .i64 y] 3)) := bls_of 37 3 2 1 #[(0, .int .i64 x), (1, .int .i64 y)] #[.int .i64 x, .int .i64 y] (by kernel_rfl) (by kernel_rfl) (by kernel_rfl) (by decide) (by decide) (by kernel_rfl) (by kernel_rfl) u
theorem bls_of3 (t e : TypeId) (k n : Nat) (parts : Array (Nat × Value)) (cells : Array Value) (hs : (Tryd.prog.info? e).isSome = true) (hz : ((Tryd.prog.info? e).get hs).zero.isSome = true) (hn : ((Tryd.prog.info? e).get hs).size = n) (hk : 0 < k ∧ k ≤ 3) (hn0 : 0 < n ∧ n ≤ 100) (hu : Tryd.prog.underlying t = some (.slice e))
    (hf : Instr.fill (fun i => some (i * n, n)) ((Array.range (k * n)).map ((((Tryd.prog.info? e).get hs).zero.get hz).cells[· % (((Tryd.prog.info? e).get hs).zero.get hz).cells.size]!)) parts.toList = some cells) (w : World) :
    (bls t k parts).run Tryd.prog w = .ok (.slice (some ⟨w.heap.size, 0, none⟩) k k) (w.alloc (.cells cells e)) := by
  unfold bls
  have h1 : ¬ k * n > 2 ^ 24 := by
    have : k * n ≤ 3 * 100 := Nat.mul_le_mul hk.2 hn0.2
    omega
  have h2 : ¬ k * n = 0 := by
    have : 1 * 1 ≤ k * n := Nat.mul_le_mul hk.1 hn0.1
    omega
  exact run_buildSlice w t e k parts cells ((Tryd.prog.info? e).get hs) (((Tryd.prog.info? e).get hs).zero.get hz) hu (Option.some_get hs).symm (Option.some_get hz).symm (by rw [hn]; exact h1) (by rw [hn]; exact h2) (by rw [hn]; exact hf)
theorem made3 (x y z : Int) (u : World) : (bls 37 3 #[(0, .int .i64 x), (1, .int .i64 y), (2, .int .i64 z)]).run Tryd.prog u = .ok (.slice (some ⟨u.heap.size, 0, none⟩) 3 3) (u.alloc (.cells #[.int .i64 x, .int .i64 y, .int .i64 z] 3)) :=
  bls_of3 37 3 3 1 #[(0, .int .i64 x), (1, .int .i64 y), (2, .int .i64 z)] #[.int .i64 x, .int .i64 y, .int .i64 z] (by kernel_rfl) (by kernel_rfl) (by kernel_rfl) (by decide) (by decide) (by kernel_rfl) (by kernel_rfl) u
set_option maxHeartbeats 16000000 in
theorem reads_any (i : In) (w : World) : Calls Tryd.prog 10 #[i.val] w fun e w' => ∃ v, e = .returned v ∧ RowAt w' w.heap.size v (readsL i) ∧ Below w.heap.size w w' := by
  obtain ⟨k, o, a, b, c, n⟩ := i
  obtain ⟨U, hU⟩ : ∃ U, U = w.alloc (.cells #[.int .u8 k, .int .u8 o, .int .i64 a, .int .i64 b, .int .i64 c, .int .i64 n] 46) := ⟨_, rfl⟩
  have hb := show Below w.heap.size w U from by rw [hU]; exact below_box w _
  have h6 : U.heap[w.heap.size]? = some (.cells #[.int .u8 k, .int .u8 o, .int .i64 a, .int .i64 b, .int .i64 c, .int .i64 n] 46 (0, 0)) := by rw [hU]; exact (MapKept.heap_alloc w _).1
  have hz : U.heap.size = w.heap.size + 1 := by rw [hU]; simp
  have c0 : U.cell? ⟨w.heap.size, 0, none⟩ = some (.int .u8 k) := by rw [Lib.cell_of_heap h6]; rfl
  have c2 : U.cell? ⟨w.heap.size, 2, none⟩ = some (.int .i64 a) := by rw [Lib.cell_of_heap h6]; rfl
  have c3 : U.cell? ⟨w.heap.size, 3, none⟩ = some (.int .i64 b) := by rw [Lib.cell_of_heap h6]; rfl
  have c4 : U.cell? ⟨w.heap.size, 4, none⟩ = some (.int .i64 c) := by rw [Lib.cell_of_heap h6]; rfl
  have HU := Lib.hid hU
  have HB := Lib.hid hb
  have HZ := Lib.hid hz
  clear hU h6 hz hb
  unfold In.val
  dsimp only
  by_cases h1 : k = 2 ∨ k = 4 ∨ k = 5 ∨ k = 12
  · have e : readsL ⟨k, o, a, b, c, n⟩ = [b] := by unfold readsL; dsimp only; rw [if_pos h1]
    rw [e]
    clear e
    rcases h1 with rfl | rfl | rfl | rfl
    all_goals
      have e1 := made1 b U
      have hX : RowAt (U.alloc (.cells #[.int .i64 b] 3)) w.heap.size (.slice (some ⟨w.heap.size + 1, 0, none⟩) 1 1) [b] := by
        have h := (MapKept.heap_alloc U (.cells (intA [b]) 3)).1
        rw [HZ.out] at h
        exact row_lit (W := w) (l := [b]) h (by omega) 1
      have HX := Lib.hid hX
      clear hX
      go_enter Tryd.func10, Tryd.ntmps10
      go_wp2_with (rw [← HU.out])
      go_ret
      refine ⟨_, rfl, ?_, HB.out.alloc (by have := HZ.out; omega) _⟩
      rw [HZ.out]
      exact HX.out
  by_cases h2 : k = 3
  · have e : readsL ⟨k, o, a, b, c, n⟩ = [b, c] := by unfold readsL; dsimp only; rw [if_neg h1, if_pos h2]
    rw [e]
    clear e h1
    subst h2
    have e1 := made2 b c U
    have hX : RowAt (U.alloc (.cells #[.int .i64 b, .int .i64 c] 3)) w.heap.size (.slice (some ⟨w.heap.size + 1, 0, none⟩) 2 2) [b, c] := by
      have h := (MapKept.heap_alloc U (.cells (intA [b, c]) 3)).1
      rw [HZ.out] at h
      exact row_lit (W := w) (l := [b, c]) h (by omega) 2
    have HX := Lib.hid hX
    clear hX
    go_enter Tryd.func10, Tryd.ntmps10
    go_wp2_with (rw [← HU.out])
    go_ret
    refine ⟨_, rfl, ?_, HB.out.alloc (by have := HZ.out; omega) _⟩
    rw [HZ.out]
    exact HX.out
  by_cases h3 : k = 8 ∨ k = 10
  · by_cases hc : c < 0
    · have e : readsL ⟨k, o, a, b, c, n⟩ = [b] := by unfold readsL; dsimp only; rw [if_neg h1, if_neg h2, if_pos h3, if_pos hc]
      rw [e]
      clear e h1 h2
      rcases h3 with rfl | rfl
      all_goals
        have e1 := made1 b U
        have hX : RowAt (U.alloc (.cells #[.int .i64 b] 3)) w.heap.size (.slice (some ⟨w.heap.size + 1, 0, none⟩) 1 1) [b] := by
          have h := (MapKept.heap_alloc U (.cells (intA [b]) 3)).1
          rw [HZ.out] at h
          exact row_lit (W := w) (l := [b]) h (by omega) 1
        have HX := Lib.hid hX
        clear hX
        go_enter Tryd.func10, Tryd.ntmps10
        go_wp2_with (rw [← HU.out])
        go_ret
        refine ⟨_, rfl, ?_, HB.out.alloc (by have := HZ.out; omega) _⟩
        rw [HZ.out]
        exact HX.out
    · have e : readsL ⟨k, o, a, b, c, n⟩ = [b, c] := by unfold readsL; dsimp only; rw [if_neg h1, if_neg h2, if_pos h3, if_neg hc]
      rw [e]
      clear e h1 h2
      rcases h3 with rfl | rfl
      all_goals
        have e1 := made2 b c U
        have hX : RowAt (U.alloc (.cells #[.int .i64 b, .int .i64 c] 3)) w.heap.size (.slice (some ⟨w.heap.size + 1, 0, none⟩) 2 2) [b, c] := by
          have h := (MapKept.heap_alloc U (.cells (intA [b, c]) 3)).1
          rw [HZ.out] at h
          exact row_lit (W := w) (l := [b, c]) h (by omega) 2
        have HX := Lib.hid hX
        clear hX
        go_enter Tryd.func10, Tryd.ntmps10
        go_wp2_with (rw [← HU.out])
        go_ret
        refine ⟨_, rfl, ?_, HB.out.alloc (by have := HZ.out; omega) _⟩
        rw [HZ.out]
        exact HX.out
  by_cases h4 : k = 9 ∨ k = 11
  · by_cases hc : c < 0
    · have e : readsL ⟨k, o, a, b, c, n⟩ = [a, b] := by unfold readsL; dsimp only; rw [if_neg h1, if_neg h2, if_neg h3, if_pos h4, if_pos hc]
      rw [e]
      clear e h1 h2 h3
      rcases h4 with rfl | rfl
      all_goals
        have e1 := made2 a b U
        have hX : RowAt (U.alloc (.cells #[.int .i64 a, .int .i64 b] 3)) w.heap.size (.slice (some ⟨w.heap.size + 1, 0, none⟩) 2 2) [a, b] := by
          have h := (MapKept.heap_alloc U (.cells (intA [a, b]) 3)).1
          rw [HZ.out] at h
          exact row_lit (W := w) (l := [a, b]) h (by omega) 2
        have HX := Lib.hid hX
        clear hX
        go_enter Tryd.func10, Tryd.ntmps10
        go_wp2_with (rw [← HU.out])
        go_ret
        refine ⟨_, rfl, ?_, HB.out.alloc (by have := HZ.out; omega) _⟩
        rw [HZ.out]
        exact HX.out
    · have e : readsL ⟨k, o, a, b, c, n⟩ = [a, b, c] := by unfold readsL; dsimp only; rw [if_neg h1, if_neg h2, if_neg h3, if_pos h4, if_neg hc]
      rw [e]
      clear e h1 h2 h3
      rcases h4 with rfl | rfl
      all_goals
        have e1 := made3 a b c U
        have hX : RowAt (U.alloc (.cells #[.int .i64 a, .int .i64 b, .int .i64 c] 3)) w.heap.size (.slice (some ⟨w.heap.size + 1, 0, none⟩) 3 3) [a, b, c] := by
          have h := (MapKept.heap_alloc U (.cells (intA [a, b, c]) 3)).1
          rw [HZ.out] at h
          exact row_lit (W := w) (l := [a, b, c]) h (by omega) 3
        have HX := Lib.hid hX
        clear hX
        go_enter Tryd.func10, Tryd.ntmps10
        go_wp2_with (rw [← HU.out])
        go_ret
        refine ⟨_, rfl, ?_, HB.out.alloc (by have := HZ.out; omega) _⟩
        rw [HZ.out]
        exact HX.out
  have e : readsL ⟨k, o, a, b, c, n⟩ = [] := by unfold readsL; dsimp only; rw [if_neg h1, if_neg h2, if_neg h3, if_neg h4]
  rw [e]
  have d2 : (k == 2) = false := by simp only [beq_eq_false_iff_ne, ne_eq]; omega
  have d4 : (k == 4) = false := by simp only [beq_eq_false_iff_ne, ne_eq]; omega
  have d5 : (k == 5) = false := by simp only [beq_eq_false_iff_ne, ne_eq]; omega
  have d12 : (k == 12) = false := by simp only [beq_eq_false_iff_ne, ne_eq]; omega
  have d3 : (k == 3) = false := by simp only [beq_eq_false_iff_ne, ne_eq]; omega
  have d8 : (k == 8) = false := by simp only [beq_eq_false_iff_ne, ne_eq]; omega
  have d10 : (k == 10) = false := by simp only [beq_eq_false_iff_ne, ne_eq]; omega
  have d9 : (k == 9) = false := by simp only [beq_eq_false_iff_ne, ne_eq]; omega
  have d11 : (k == 11) = false := by simp only [beq_eq_false_iff_ne, ne_eq]; omega
  clear e h1 h2 h3 h4 c2 c3 c4
  go_enter Tryd.func10, Tryd.ntmps10
  go_wp2_with (rw [← HU.out])
  go_ret
  exact ⟨_, rfl, ⟨none, 0, rfl, fun h => by simp at h⟩, HB.out⟩
end Go.Proofs.YtgkjhnghibpeoaaDoor
namespace Go.Proofs.YtgkjhnghibpeoaaDoor
open Go.RowKit
set_option maxRecDepth 1000000
attribute [local go_sem ↓] bld_eq bls_eq

open Go Go.Lib
def Icells (x : Int) : List Value := [.int .i64 x]
theorem lies_at2 {α : Type} {cells : α → List Value} {kc : Nat} {w : World} {B : Nat} {q : Option Addr} {n c : Nat} {l : List α} (h : LiesG cells kc w B (.slice q n c) l) (i : Nat) (x : α) (hx : l[i]? = some x) :
    ∃ g off, q = some ⟨g, off, none⟩ ∧ g < B ∧ ∀ j u, (cells x)[j]? = some u → w.cell? ⟨g, off + i * kc + j, none⟩ = some u := by
  obtain ⟨ao, cap, e, -, h⟩ := h
  cases e
  rcases h with rfl | ⟨g, off, rfl, hg, h3⟩
  · simp at hx
  · exact ⟨g, off, rfl, hg, fun j u hu => by rw [Nat.add_assoc]; exact h3 i x hx j u hu⟩
set_option maxHeartbeats 4000000 in
theorem sameNumbers_any (l : List Int) (B : Nat) (va vb : Value) (w : World) (h1 : LiesG Icells 1 w B va l) (h2 : LiesG Icells 1 w B vb l) (hBw : B ≤ w.heap.size) :
    Calls Tryd.prog 13 #[va, vb] w fun e w' => e = .returned (.bool true) ∧ Below w.heap.size w w' := by
  obtain ⟨qa, ca, rfl, hl, -⟩ := h1.form
  obtain ⟨qb, cb, rfl, -, -⟩ := h2.form
  have H1 := Lib.hid h1
  have H2 := Lib.hid h2
  obtain ⟨N, hN⟩ : ∃ N, N = l.length := ⟨_, rfl⟩
  rw [← hN] at H1 H2 hl ⊢
  have HN := Lib.hid hN
  clear h1 h2 hN
  go_enter Tryd.func13, Tryd.ntmps13
  go_wp2_with fail
  go_loopw [13] (fun q wr => ∃ k : Nat, k ≤ N ∧ q = .int .i64 (k : Int) ∧ Below w.heap.size w wr) (fun q _ => N - (intOf q).toNat)
  case atStart => exact ⟨0, by omega, rfl, Below.refl _ _⟩
  case round =>
    obtain ⟨k, hkN, rfl, hB⟩ := hrel
    by_cases hlt : k < N
    · obtain ⟨x, hx⟩ : ∃ x, l[k]? = some x := ⟨_, List.getElem?_eq_getElem (by rw [← HN.out]; exact hlt)⟩
      obtain ⟨ga, oa, rfl, hga, ra⟩ := lies_at2 H1.out k x hx
      obtain ⟨gb, ob, rfl, hgb, rb⟩ := lies_at2 H2.out k x hx
      have hsz := hB.size
      rw [Nat.mul_one] at ra rb
      have ca0 := (hB.cell (p := ⟨ga, oa + k, none⟩) (by show ga < w.heap.size; omega)).trans (ra 0 _ rfl)
      have cb0 := (hB.cell (p := ⟨gb, ob + k, none⟩) (by show gb < w.heap.size; omega)).trans (rb 0 _ rfl)
      have hga2 : ga < wr.heap.size := by omega
      have hgb2 : gb < wr.heap.size := by omega
      have HB := Lib.hid hB
      clear hx hB ra rb
      go_wp2_with fail
      refine wp_region_held_drew (S := SameTo wr.heap.size wr) (by kernel_rfl) (SameTo.drew _ _) (fun hSw => ?_)
      refine tH 0 (.slice (some ⟨ga, oa, none⟩) N ca) hSw ?_
      try simp only [nS]
      refine tH 1 (.int .i64 (k : Int)) hSw ?_
      try simp only [nS]
      refine tH 2 (.pointer (some ⟨ga, oa + k, none⟩)) hSw ?_
      try simp only [nS]
      refine tG 3 (.int .i64 x) hSw (fun W hW => ?_) ?_
      · have ca0 := hW.cell (by dsimp only; omega) ca0
        first | (go_simp; done) | rfl
      try simp only [nS]
      refine tH 4 (.slice (some ⟨gb, ob, none⟩) N cb) hSw ?_
      try simp only [nS]
      refine tH 5 (.int .i64 (k : Int)) hSw ?_
      try simp only [nS]
      refine tH 6 (.pointer (some ⟨gb, ob + k, none⟩)) hSw ?_
      try simp only [nS]
      refine tG 7 (.int .i64 x) hSw (fun W hW => ?_) ?_
      · have cb0 := hW.cell (by dsimp only; omega) cb0
        first | (go_simp; done) | rfl
      try simp only [nS]
      refine tH 8 (.bool false) hSw ?_
      try simp only [nS]
      refine wpAnyH_done (by kernel_rfl) ?_ _
      go_wp2_with fail
      go_roundw
      case rel => exact ⟨k + 1, hlt, by go_num, ⟨HB.out.os, HB.out.tape, HB.out.output, HB.out.size, HB.out.block⟩⟩
      case measure => simp [intOf]; omega
    · go_wp2_with fail
      go_ret
      exact ⟨rfl, hB⟩
set_option maxHeartbeats 4000000 in

theorem RowAt.lies {w : World} {lo : Nat} {v : Value} {l : List Int} (h : RowAt w lo v l) (hl : l.length ≤ 4096) : LiesG Icells 1 w w.heap.size v l := by
  obtain ⟨ao, cap, e, h⟩ := h
  refine ⟨ao, cap, e, by omega, ?_⟩
  by_cases h0 : 0 < l.length
  · obtain ⟨gN, off, e1, _, h2, h3⟩ := h h0
    refine .inr ⟨gN, off, e1, h2, fun i x hx j u hu => ?_⟩
    cases j with
    | zero => simp [Icells] at hu; subst hu; rw [Nat.mul_one, Nat.add_zero]; exact h3 i x hx
    | succ j => simp [Icells] at hu
  · exact .inl (List.length_eq_zero_iff.1 (by omega))
end Go.Proofs.YtgkjhnghibpeoaaDoor
