/- What a list's twin is, and that of a list whose lines stand later: rows of their own that hold the same tokens, or the same with other lines. Nothing of what there was changes. -/
import Derived.Test.YtnjjcngggdankaaDoorRows
import Derived.Test.YtnjjcngggdankaaDoorLexSame
import Derived.Laws.MakeOwn
import Derived.Laws.CopyRow
import Derived.Laws.OwnMore
import Derived.Lib.SmallJoins
import Derived.WalkKit
import Derived.WalkSpells
import Derived.WalkLawsBesides
import Derived.Lib.Hide
namespace Go.Proofs.YtnjjcngggdankaaDoor
open Go.RowKit Go.Joins

theorem row_one : ∀ ts : List Tok, ∀ u ∈ rowOf ts, u.oneCell' = true
  | [], u, h => by cases h
  | t :: ts, u, h => by
    rcases List.mem_append.1 (show u ∈ tokCells t ++ rowOf ts from h) with h | h
    · exact four_one _ _ _ _ u h
    · exact row_one ts u h

/-- A row is copied to the front of one that is known whole. -/
theorem copy_rows {P : Program} (T E ty : TypeId) (i : TypeInfo) (hT : P.underlying T = some (.slice E)) (hi : P.info? E = some i) (hz : i.size = 4) (v : Value) (n B : Nat) (xs : List Value) (W : World) (h : W.ownsRow B E 4 v n xs) (h1 : ∀ u ∈ xs, u.oneCell' = true)
    (g m : Nat) (M : Array Value) (hM : M.size = m * 4) (hnm : n ≤ m) (hg : W.heap[g]? = some (.cells M E (0, 0))) :
    ∃ Y : Array Value, Y.size = m * 4 ∧ Y.toList.take (n * 4) = xs ∧ (Builtin.copy_ #[T, T] ty #[.slice (some ⟨g, 0, none⟩) n m, v]).run P W = .ok (goInt n) (W.setRow g Y) := by
  have hl := h.1
  have hle : n * 4 ≤ m * 4 := Nat.mul_le_mul_right 4 hnm
  rcases ownsRow_forms h with ⟨rfl, rfl⟩ | ⟨gs, cap, rfl⟩
  · have hx : xs = [] := List.eq_nil_of_length_eq_zero (by simpa using hl)
    subst hx
    refine ⟨M, hM, by simp, ?_⟩
    rw [setRow_self W g M E (0, 0) hg]
    simp [Builtin.copy_, run_underlying hT, Builtin.lenOf, Builtin.firstCells, sizeOf, typeInfo, hi, storeCells]
  · have hc := h.cells (g := gs) rfl
    have hld := run_loadCells_list (P := P) W ⟨gs, 0, none⟩ xs hc
    have hst := run_storeCells_at P g 0 E xs 0 M W hg (by rw [hM, hl]; omega) h1
    rw [hl] at hld
    refine ⟨(M.toList.take (0 + 0) ++ xs ++ M.toList.drop (0 + 0 + xs.length)).toArray, ?_, ?_, ?_⟩
    · simp [hM, hl]; omega
    · rw [List.toList_toArray]
      simp only [Nat.add_zero, List.take_zero, List.nil_append]
      rw [← hl]
      exact List.take_left
    · have hmin : Nat.min n n = n := Nat.min_self n
      simp [Builtin.copy_, run_underlying hT, Builtin.lenOf, Builtin.firstCells, sizeOf, typeInfo, hi, hz, hld, hst, hmin]

/-- Of a row that is known to its capacity: the front of it. -/
theorem own_less {w : World} {base : Nat} {e : TypeId} {size g n m : Nat} {xs : List Value} (h : w.ownsRow base e size (.slice (some ⟨g, 0, none⟩) m m) m xs) (hn : n ≤ m) : w.ownsRow base e size (.slice (some ⟨g, 0, none⟩) n m) n (xs.take (n * size)) := by
  have hle : n * size ≤ m * size := Nat.mul_le_mul_right size hn
  rcases h.2 with ⟨h', _⟩ | ⟨g', cap', cur, h', hb, hg, hnc, hcm, hcs, htake⟩
  · cases h'
  · simp only [Value.slice.injEq, Option.some.injEq, Addr.mk.injEq, and_true, true_and] at h'
    obtain ⟨rfl, rfl⟩ := h'
    refine ⟨by rw [List.length_take, h.1]; omega, .inr ⟨g, m, cur, rfl, hb, hg, hn, hcm, hcs, ?_⟩⟩
    rw [← htake, List.take_take, Nat.min_eq_left hle]

set_option maxHeartbeats 400000 in
theorem mark_any (k : Nat) (hk : k ≤ 1000000) (w : World) :
    Calls Tryd.prog 23 #[.int .i64 (k : Int)] w fun e w' => e = .returned (.agg #[.int .u8 0, .string ⟨#[]⟩, .int .i64 0, .int .i64 (-1000 - (k : Int))]) ∧ Below w.heap.size w w' := by
  go_enter Tryd.func23, Tryd.ntmps23
  go_wp2
  exact bodyPost_ret (v := .agg #[.int .u8 0, .string ⟨#[]⟩, .int .i64 0, .int .i64 (-1000 - (k : Int))]) (by simp [results, Tryd.results23, go_sem]) rfl ⟨rfl, (Below.refl _ _).alloc (Nat.le_refl _) _⟩

theorem own_slice {w : World} {base : Nat} {e : TypeId} {size n : Nat} {v : Value} {xs : List Value} (h : w.ownsRow base e size v n xs) : ∃ A c, v = .slice A n c := by
  rcases ownsRow_forms h with ⟨rfl, rfl⟩ | ⟨g, c, rfl⟩
  · exact ⟨_, _, rfl⟩
  · exact ⟨_, _, rfl⟩
/-- A row of the call's own that holds these tokens. -/
def Holds (ts : List Tok) (n : Nat) (w : World) (e : Ending) (w' : World) : Prop :=
  ∃ g c, e = .returned (.slice (some ⟨g, 0, none⟩) n c) ∧ Below w.heap.size w w' ∧ w'.ownsRow w.heap.size 35 4 (.slice (some ⟨g, 0, none⟩) n c) n (rowOf ts)

theorem take_set_far {α : Type} (l : List α) (j m : Nat) (u : α) (h : m ≤ j) : (l.set j u).take m = l.take m := by
  rw [List.take_set, List.set_eq_of_length_le (by rw [List.length_take]; omega)]
theorem own_there {w : World} {base : Nat} {e : TypeId} {size g n cap : Nat} {xs : List Value} (h : w.ownsRow base e size (.slice (some ⟨g, 0, none⟩) n cap) n xs) (j : Nat) (hj : j < n * size) : ∃ u, w.cell? ⟨g, j, none⟩ = some u := by
  rw [h.cellAt j hj]
  exact ⟨_, List.getElem?_eq_getElem (by have := h.1; omega)⟩
/-- Four cells of a row are written over. -/
theorem own_four {w : World} {base : Nat} {e : TypeId} {g n cap : Nat} {xs : List Value} (h : w.ownsRow base e 4 (.slice (some ⟨g, 0, none⟩) n cap) n xs) (j : Nat) (a b c d : Value) :
    ((((w.setCell ⟨g, j, none⟩ a).setCell ⟨g, j + 1, none⟩ b).setCell ⟨g, j + 2, none⟩ c).setCell ⟨g, j + 3, none⟩ d).ownsRow base e 4 (.slice (some ⟨g, 0, none⟩) n cap) n ((((xs.set j a).set (j + 1) b).set (j + 2) c).set (j + 3) d) :=
  ((((h.stored j a).1.stored (j + 1) b).1.stored (j + 2) c).1.stored (j + 3) d).1

set_option maxHeartbeats 1000000 in
theorem twin_any (ts : List Tok) (n : Nat) (v : Value) (B : Nat) (w : World) (hb : n ≤ 100000) (h1 : w.ownsRow B 35 4 v n (rowOf ts)) :
    Calls Tryd.prog 14 #[v] w (Holds ts n w) := by
  obtain ⟨i0, hi, hz0, hz1, hz2⟩ := info_parts tokInfo
  obtain ⟨M, hM⟩ : ∃ M, M = madeCells (Value.agg #[.int .u8 0, .string ⟨#[]⟩, .int .i64 0, .int .i64 0]).cells (((n : Int) + 2).toNat * i0.size) := ⟨_, rfl⟩
  have hMs : M.size = (n + 2) * 4 := by rw [hM, size_madeCells, hz1]; omega
  have hmk : (Instr.makeSlice 24 (.int .i64 (n : Int)) (.int .i64 ((n : Int) + 2))).run Tryd.prog w = .ok (.slice (some ⟨w.heap.size, 0, none⟩) n (n + 2)) (w.alloc (.cells M 35)) := by
    have h := run_make (P := Tryd.prog) w 24 35 i0 (.agg #[.int .u8 0, .string ⟨#[]⟩, .int .i64 0, .int .i64 0]) Tryd.underlying24 hi hz0 .i64 .i64 (n : Int) ((n : Int) + 2) (by omega) (by omega) (by rw [hz2]; omega) (by omega)
    rw [← hM, show ((n : Int) + 2).toNat = n + 2 by omega] at h
    simpa using h
  have hg : (w.alloc (.cells M 35)).heap[w.heap.size]? = some (.cells M 35 (0, 0)) := heap_alloc_new w _
  obtain ⟨Y, hY, hYt, hcp⟩ := copy_rows (P := Tryd.prog) 24 35 3 i0 Tryd.underlying24 hi hz1 v n B (rowOf ts) _ (h1.alloc (.cells M 35)) (row_one ts) w.heap.size (n + 2) M hMs (by omega) hg
  have hgY := setRow_heap _ w.heap.size M Y 35 (0, 0) hg
  have hown : ((w.alloc (.cells M 35)).setRow w.heap.size Y).ownsRow w.heap.size 35 4 (.slice (some ⟨w.heap.size, 0, none⟩) (n + 2) (n + 2)) (n + 2) Y.toList :=
    ⟨by rw [Array.length_toList, hY], .inr ⟨w.heap.size, n + 2, Y, rfl, Nat.le_refl _, hgY, Nat.le_refl _, by unfold maxLen; omega, hY, by rw [List.take_of_length_le]; rw [Array.length_toList, hY]; exact Nat.le_refl _⟩⟩
  have hbl : Below w.heap.size w ((w.alloc (.cells M 35)).setRow w.heap.size Y) :=
    ((Below.refl _ w).alloc (Nat.le_refl _) _).trans ⟨rfl, rfl, rfl, by simp, fun k hk => setRow_other _ _ _ _ (by omega)⟩
  have HO := Lib.hid hown
  have HT := Lib.hid hYt
  have HB := Lib.hid hbl
  obtain ⟨A, c, rfl⟩ := own_slice h1
  clear hi hz0 hz1 hz2 hM hMs h1 hg hY hYt hgY hown hbl
  go_enter Tryd.func14, Tryd.ntmps14
  go_wp2_with fail
  go_loopw [5] (fun i wr => ∃ (k : Nat) (xs : List Value), n ≤ k ∧ k ≤ n + 2 ∧ i = .int .i64 k ∧ wr.ownsRow w.heap.size 35 4 (.slice (some ⟨w.heap.size, 0, none⟩) (n + 2) (n + 2)) (n + 2) xs ∧ Hid (xs.take (n * 4) = rowOf ts) ∧ Below w.heap.size w wr) (fun i _ => n + 2 - (intOf i).toNat)
  case atStart => exact ⟨n, Y.toList, Nat.le_refl _, by omega, rfl, HO.out, HT, HB.out⟩
  case round =>
    obtain ⟨k, xs, hk1, hk2, rfl, hown, HX, hbl⟩ := hrel
    by_cases hlt : k < n + 2
    · have HM := Lib.hid (fun w => mark_any k (by omega) w)
      go_wp2_with fail
      refine (HM.out _).mono ?_; rintro e w1 ⟨rfl, hb1⟩
      have ho1 := own_below hown hb1
      obtain ⟨u0, c0⟩ := own_there ho1 (k * 4) (by omega)
      obtain ⟨u1, c1⟩ := own_there ho1 (k * 4 + 1) (by omega)
      obtain ⟨u2, c2⟩ := own_there ho1 (k * 4 + 2) (by omega)
      obtain ⟨u3, c3⟩ := own_there ho1 (k * 4 + 3) (by omega)
      have f0 := ho1.frozenAt (k * 4)
      have f1 := ho1.frozenAt (k * 4 + 1)
      have f2 := ho1.frozenAt (k * 4 + 2)
      have f3 := ho1.frozenAt (k * 4 + 3)
      have hb2 := hbl.trans (hb1.mono hbl.size)
      have HO1 := Lib.hid ho1
      clear ho1 hown hb1 hbl
      go_wp2_with fail
      go_roundw
      case rel =>
        refine ⟨k + 1, _, by omega, by omega, by go_num, own_four HO1.out (k * 4) _ _ _ _, Lib.hid ?_, below_four hb2 (Nat.le_refl _) (Nat.le_refl _) (Nat.le_refl _) (Nat.le_refl _) _ _ _ _⟩
        rw [take_set_far _ _ _ _ (by omega), take_set_far _ _ _ _ (by omega), take_set_far _ _ _ _ (by omega), take_set_far _ _ _ _ (by omega)]
        exact HX.out
      case measure => simp [intOf]; omega
    · have hr := own_less hown (show n ≤ n + 2 by omega)
      rw [HX.out] at hr
      have HR := Lib.hid hr
      clear hr hown
      go_wp2_with fail
      go_ret
      exact ⟨_, _, rfl, hbl, HR.out⟩
end Go.Proofs.YtnjjcngggdankaaDoor
