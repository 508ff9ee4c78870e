/- Sets of registers, two and two. -/
import Derived.Test.YtgkjhnghibpeoaaDoorRows
import Derived.Test.YtgkjhnghibpeoaaDoorLvPut
import Derived.Test.YtgkjhnghibpeoaaDoorLvBack
import Derived.Test.YtgkjhnghibpeoaaDoorIrLeaf
import Derived.Test.YtgkjhnghibpeoaaDoorIrNew
import Derived.Test.YtgkjhnghibpeoaaDoorParseOrder
import Derived.LoopTactic
import Derived.LoopN
import Derived.Deep.LoopGhost
import Derived.WalkKit
import Derived.WalkSpells
import Derived.WalkLawsBesides
import Derived.Lib.Hide
import Derived.OrdersHeld
import Derived.Deep.RegionHeld
import Derived.Deep.DrawnRows
import Derived.RegionTactic
import Derived.Deep.RegionHeld3
import Derived.IntWalk
import Derived.Deep.QuietTactic
import Derived.BigQuiet
namespace Go.Proofs.YtgkjhnghibpeoaaDoor
open Go.RowKit
set_option maxRecDepth 1000000
attribute [local go_sem ↓] bld_eq bls_eq


def orW (a b : Nat) : Nat := a ||| b
def andW (a b : Nat) : Nat := a &&& b
/-- A set, handed on. -/
def setV (s : List Nat) : Value := .agg (u64A s)
theorem u64A_size (s : List Nat) : (u64A s).size = s.length := by simp [u64A]
theorem u64A_one (s : List Nat) : (u64A s).all (·.oneCell') = true := by
  unfold u64A
  refine all_oneCell_toArray fun v hv => ?_
  obtain ⟨n, _, rfl⟩ := List.mem_map.1 hv
  rfl
theorem index_set {t : List Nat} (ht : SOk t) {k y : Nat} (hy : t[k]? = some y) (w : World) : (Instr.index 58 (.agg (u64A t)) (.int .i64 (k : Int))).run Tryd.prog w = .ok (.int .u64 (y : Int)) w := by
  have hk : k < 16 := by have := (List.getElem?_eq_some_iff.1 hy).1; rw [ht.len] at this; exact this
  have h1 : (u64A t)[k]? = some (.int .u64 (y : Int)) := by simp [u64A, hy]
  have hkI : (0 : Int) ≤ (k : Int) ∧ (k : Int) < ((16 : Nat) : Int) := by omega
  have hpl := run_part_plain (P := Tryd.prog) (e := 56) (by kernel_rfl) h1 (w := w)
  simp [Instr.index, asIntOf, run_underlying Tryd.underlying58]
  rw [if_pos hk]
  exact hpl
theorem three_box (w : World) (a b c : Array Value) (T T2 T3 : TypeId) : ((((w.alloc (.cells a T)).alloc (.cells b T2)).alloc (.cells c T3)).heap.size = w.heap.size + 3 ∧ Below w.heap.size w (((w.alloc (.cells a T)).alloc (.cells b T2)).alloc (.cells c T3))) ∧
    (((w.alloc (.cells a T)).alloc (.cells b T2)).alloc (.cells c T3)).heap[w.heap.size]? = some (.cells a T (0, 0)) ∧ (((w.alloc (.cells a T)).alloc (.cells b T2)).alloc (.cells c T3)).heap[w.heap.size + 1]? = some (.cells b T2 (0, 0)) ∧
    (((w.alloc (.cells a T)).alloc (.cells b T2)).alloc (.cells c T3)).heap[w.heap.size + 2]? = some (.cells c T3 (0, 0)) := by
  have z1 : (w.alloc (.cells a T)).heap.size = w.heap.size + 1 := by simp
  have z2 : ((w.alloc (.cells a T)).alloc (.cells b T2)).heap.size = w.heap.size + 2 := by simp
  have h1 := (MapKept.heap_alloc w (.cells a T)).1
  have h2 := (MapKept.heap_alloc (w.alloc (.cells a T)) (.cells b T2)).1
  have h3 := (MapKept.heap_alloc ((w.alloc (.cells a T)).alloc (.cells b T2)) (.cells c T3)).1
  rw [z1] at h2
  rw [z2] at h3
  refine ⟨⟨by simp, ((below_box w _).alloc (by omega) _).alloc (by omega) _⟩, ?_, ?_, h3⟩
  · exact (Below.heap_alloc _ _ _ (by omega)).trans ((Below.heap_alloc _ _ _ (by omega)).trans h1)
  · exact (Below.heap_alloc _ _ _ (by omega)).trans h2
/-- The first k words are done. -/
def mixS (f : Nat → Nat → Nat) (s t : List Nat) (k : Nat) : List Nat := (List.zipWith f s t).take k ++ s.drop k
theorem mixS_zero (f : Nat → Nat → Nat) (s t : List Nat) : mixS f s t 0 = s := rfl
theorem mixS_all {f : Nat → Nat → Nat} {s t : List Nat} (hs : s.length = 16) (ht : t.length = 16) : mixS f s t 16 = List.zipWith f s t := by
  unfold mixS
  rw [List.take_of_length_le (by simp [hs, ht]), List.drop_eq_nil_of_le (by omega), List.append_nil]
theorem mixS_at {f : Nat → Nat → Nat} {s t : List Nat} {k x : Nat} (hs : s.length = 16) (ht : t.length = 16) (hx : s[k]? = some x) : (mixS f s t k)[k]? = some x := by
  have hk := (List.getElem?_eq_some_iff.1 hx).1
  unfold mixS
  rw [List.getElem?_append_right (by simp; omega), List.getElem?_drop]
  have : k + (k - ((List.zipWith f s t).take k).length) = k := by simp; omega
  rw [this]; exact hx
theorem mixS_set {f : Nat → Nat → Nat} {s t : List Nat} {k x y : Nat} (hs : s.length = 16) (ht : t.length = 16) (hx : s[k]? = some x) (hy : t[k]? = some y) : (mixS f s t k).set k (f x y) = mixS f s t (k + 1) := by
  have hk := (List.getElem?_eq_some_iff.1 hx).1
  have hl : ((List.zipWith f s t).take k).length = k := by simp; omega
  unfold mixS
  rw [List.set_append_right _ _ (by omega), hl, Nat.sub_self, List.drop_eq_getElem_cons hk, List.set_cons_zero, List.take_add_one, List.getElem?_zipWith, hx, hy]
  simp

set_option maxHeartbeats 8000000 in
theorem setless_any (s t : List Nat) (w : World) (hs : SOk s) (ht : SOk t) :
    Calls Tryd.prog 27 #[setV s, setV t] w fun e w' => e = .returned (setV (lessS s t)) ∧ Below w.heap.size w w' := by
  have hA := u64A_one s
  have hB := u64A_one t
  have hAs : (u64A s).size = 16 := by rw [u64A_size, hs.len]
  have hBs : (u64A t).size = 16 := by rw [u64A_size, ht.len]
  obtain ⟨A, hAe⟩ : ∃ A, A = u64A s := ⟨_, rfl⟩
  obtain ⟨B, hBe⟩ : ∃ B, B = u64A t := ⟨_, rfl⟩
  have hix : ∀ (k y : Nat), t[k]? = some y → ∀ w, (Instr.index 58 (.agg B) (.int .i64 (k : Int))).run Tryd.prog w = .ok (.int .u64 (y : Int)) w := fun k y hy w => by rw [hBe]; exact index_set ht hy w
  unfold setV
  rw [← hAe, ← hBe]
  rw [← hAe] at hA hAs
  rw [← hBe] at hB hBs
  obtain ⟨W, hW⟩ : ∃ W, W = ((w.alloc (.cells A 58)).alloc (.cells B 58)).alloc (.cells #[.int .u64 0, .int .u64 0, .int .u64 0, .int .u64 0, .int .u64 0, .int .u64 0, .int .u64 0, .int .u64 0, .int .u64 0, .int .u64 0, .int .u64 0, .int .u64 0, .int .u64 0, .int .u64 0, .int .u64 0, .int .u64 0] 58) := ⟨_, rfl⟩
  obtain ⟨⟨hz, hb⟩, q0, q1, q2⟩ := three_box w A B #[.int .u64 0, .int .u64 0, .int .u64 0, .int .u64 0, .int .u64 0, .int .u64 0, .int .u64 0, .int .u64 0, .int .u64 0, .int .u64 0, .int .u64 0, .int .u64 0, .int .u64 0, .int .u64 0, .int .u64 0, .int .u64 0] 58 58 58
  rw [← hW] at hz hb q0 q1 q2
  rw [hAe] at q0
  have HW := Lib.hid hW
  have HQ0 := Lib.hid q0
  have HQ1 := Lib.hid q1
  have HQ2 := Lib.hid q2
  have HB := Lib.hid hb
  have HZ := Lib.hid hz
  have HBs := Lib.hid hBs
  have HS := Lib.hid hs
  have HT := Lib.hid ht
  have HIX := Lib.hid hix
  clear hW q0 q1 q2 hb hz hBs hs ht hix hA hB hAs hAe hBe
  go_enter Tryd.func27, Tryd.ntmps27
  go_wp2_with (first
    | (rw [← HW.out])
    | (refine wpList_load_row rfl 58 (Operand.tmp 3) rfl (w.heap.size + 1) rfl 58 B (0, 0) _ HQ1.out Tryd.underlying58 rfl (by rw [HBs.out]; kernel_rfl) ?_))
  go_loopw [8] (fun kv wr => ∃ (k : Nat), kv = .int .i64 (k : Int) ∧ k ≤ 16 ∧ Hid (wr.heap[w.heap.size]? = some (.cells (u64A (mixS clr s t k)) 58 (0, 0)) ∧ wr.heap[w.heap.size + 2]? = some (.cells #[.int .u64 0, .int .u64 0, .int .u64 0, .int .u64 0, .int .u64 0, .int .u64 0, .int .u64 0, .int .u64 0, .int .u64 0, .int .u64 0, .int .u64 0, .int .u64 0, .int .u64 0, .int .u64 0, .int .u64 0, .int .u64 0] 58 (0, 0)) ∧ Below w.heap.size w wr ∧ wr.heap.size = w.heap.size + 3)) (fun kv _ => 16 - (intOf kv).toNat)
  case atStart => exact ⟨0, rfl, by omega, Lib.hid ⟨HQ0.out, HQ2.out, HB.out, HZ.out⟩⟩
  case round => as_aux_lemma =>
    obtain ⟨k, rfl, hk, HR⟩ := hrel
    rename World => V
    by_cases hk16 : k = 16
    · subst hk16
      have HM := Lib.hid HR.out.1
      have HN := Lib.hid HR.out.2.1
      rw [mixS_all HS.out.len HT.out.len] at HM
      have hsz : (u64A (lessS s t)).size = 16 := by rw [u64A_size, (HS.out.less HT.out).len]
      have hone := u64A_one (lessS s t)
      have HM : Hid (V.heap[w.heap.size]? = some (.cells (u64A (lessS s t)) 58 (0, 0))) := HM
      obtain ⟨C, hC⟩ : ∃ C, C = u64A (lessS s t) := ⟨_, rfl⟩
      rw [← hC] at HM hsz hone
      have HCe := Lib.hid hC
      have HCz := Lib.hid hsz
      have HC1 := Lib.hid hone
      clear hsz hone hC
      go_wp2_with (first
        | (refine wpList_load_row rfl 58 (Operand.tmp 2) rfl w.heap.size rfl 58 C (0, 0) _ HM.out Tryd.underlying58 rfl (by rw [HCz.out]; kernel_rfl) ?_)
        | (refine wpList_put rfl 58 (Operand.tmp 4) (Operand.tmp 19) rfl (w.heap.size + 2) 58 _ C rfl rfl HN.out (by rw [HCz.out]; rfl) (by rw [HCz.out]; kernel_rfl) HC1.out ?_))
      intro w5 hp5
      have HQ := Lib.hid hp5
      clear hp5
      go_wp2_with fail
      refine bodyPost_ret (v := .agg C) (results_cell_row rfl _ _ (w.heap.size + 2) 58 _ (0, 0) _ rfl HQ.out.at_b Tryd.underlying58 rfl (by rw [HCz.out]; kernel_rfl)) rfl ?_
      exact ⟨by rw [HCe.out], HQ.out.below HR.out.2.2.1 (by omega)⟩
    · have hlt : (k : Int) < 16 := by omega
      have dlt : decide ((k : Int) < 16) = true := by simpa using hlt
      obtain ⟨x, hx⟩ : ∃ x, s[k]? = some x := ⟨_, List.getElem?_eq_getElem (by rw [HS.out.len]; omega)⟩
      obtain ⟨y, hy⟩ : ∃ y, t[k]? = some y := ⟨_, List.getElem?_eq_getElem (by rw [HT.out.len]; omega)⟩
      have hix := HIX.out k y hy
      have c0 := u64A_at HR.out.1 (mixS_at (f := clr) HS.out.len HT.out.len hx)
      have f0 := Lib.frozen_of_heap HR.out.1 k
      have hop : bits .andNot .u64 (x : Int) (y : Int) = (((clr) x y : Nat) : Int) := bits64_clr (HS.out.lt x (List.mem_of_getElem? hx)) (HT.out.lt y (List.mem_of_getElem? hy))
      obtain ⟨z, hz⟩ : ∃ z, z = (clr) x y := ⟨_, rfl⟩
      rw [← hz] at hop
      have HN := Lib.hid (show ∀ U, U = V.setCell ⟨w.heap.size, k, none⟩ (.int .u64 (z : Int)) → U.heap[w.heap.size]? = some (.cells (u64A (mixS clr s t (k + 1))) 58 (0, 0)) ∧ U.heap[w.heap.size + 2]? = some (.cells #[.int .u64 0, .int .u64 0, .int .u64 0, .int .u64 0, .int .u64 0, .int .u64 0, .int .u64 0, .int .u64 0, .int .u64 0, .int .u64 0, .int .u64 0, .int .u64 0, .int .u64 0, .int .u64 0, .int .u64 0, .int .u64 0] 58 (0, 0)) ∧ Below w.heap.size w U ∧ U.heap.size = w.heap.size + 3 from fun U hU => by
        rw [hU]
        refine ⟨?_, (Below.heap_setCell _ _ _ _ (by dsimp only; omega)).trans HR.out.2.1, HR.out.2.2.1.setCell (by dsimp only; omega) _, by rw [size_set]; exact HR.out.2.2.2⟩
        rw [← mixS_set HS.out.len HT.out.len hx hy, ← hz]
        exact u64A_set HR.out.1 k z)
      clear hx hy hz
      go_wp2_with fail
      go_roundw
      case rel => exact ⟨k + 1, by go_num, by omega, Lib.hid (HN.out _ rfl)⟩
      case measure => simp [intOf]; omega

set_option maxHeartbeats 8000000 in
theorem setwith_any (s t : List Nat) (w : World) (hs : SOk s) (ht : SOk t) :
    Calls Tryd.prog 28 #[setV s, setV t] w fun e w' => e = .returned (setV (withS s t)) ∧ Below w.heap.size w w' := by
  have hA := u64A_one s
  have hB := u64A_one t
  have hAs : (u64A s).size = 16 := by rw [u64A_size, hs.len]
  have hBs : (u64A t).size = 16 := by rw [u64A_size, ht.len]
  obtain ⟨A, hAe⟩ : ∃ A, A = u64A s := ⟨_, rfl⟩
  obtain ⟨B, hBe⟩ : ∃ B, B = u64A t := ⟨_, rfl⟩
  have hix : ∀ (k y : Nat), t[k]? = some y → ∀ w, (Instr.index 58 (.agg B) (.int .i64 (k : Int))).run Tryd.prog w = .ok (.int .u64 (y : Int)) w := fun k y hy w => by rw [hBe]; exact index_set ht hy w
  unfold setV
  rw [← hAe, ← hBe]
  rw [← hAe] at hA hAs
  rw [← hBe] at hB hBs
  obtain ⟨W, hW⟩ : ∃ W, W = ((w.alloc (.cells A 58)).alloc (.cells B 58)).alloc (.cells #[.int .u64 0, .int .u64 0, .int .u64 0, .int .u64 0, .int .u64 0, .int .u64 0, .int .u64 0, .int .u64 0, .int .u64 0, .int .u64 0, .int .u64 0, .int .u64 0, .int .u64 0, .int .u64 0, .int .u64 0, .int .u64 0] 58) := ⟨_, rfl⟩
  obtain ⟨⟨hz, hb⟩, q0, q1, q2⟩ := three_box w A B #[.int .u64 0, .int .u64 0, .int .u64 0, .int .u64 0, .int .u64 0, .int .u64 0, .int .u64 0, .int .u64 0, .int .u64 0, .int .u64 0, .int .u64 0, .int .u64 0, .int .u64 0, .int .u64 0, .int .u64 0, .int .u64 0] 58 58 58
  rw [← hW] at hz hb q0 q1 q2
  rw [hAe] at q0
  have HW := Lib.hid hW
  have HQ0 := Lib.hid q0
  have HQ1 := Lib.hid q1
  have HQ2 := Lib.hid q2
  have HB := Lib.hid hb
  have HZ := Lib.hid hz
  have HBs := Lib.hid hBs
  have HS := Lib.hid hs
  have HT := Lib.hid ht
  have HIX := Lib.hid hix
  clear hW q0 q1 q2 hb hz hBs hs ht hix hA hB hAs hAe hBe
  go_enter Tryd.func28, Tryd.ntmps28
  go_wp2_with (first
    | (rw [← HW.out])
    | (refine wpList_load_row rfl 58 (Operand.tmp 3) rfl (w.heap.size + 1) rfl 58 B (0, 0) _ HQ1.out Tryd.underlying58 rfl (by rw [HBs.out]; kernel_rfl) ?_))
  go_loopw [8] (fun kv wr => ∃ (k : Nat), kv = .int .i64 (k : Int) ∧ k ≤ 16 ∧ Hid (wr.heap[w.heap.size]? = some (.cells (u64A (mixS orW s t k)) 58 (0, 0)) ∧ wr.heap[w.heap.size + 2]? = some (.cells #[.int .u64 0, .int .u64 0, .int .u64 0, .int .u64 0, .int .u64 0, .int .u64 0, .int .u64 0, .int .u64 0, .int .u64 0, .int .u64 0, .int .u64 0, .int .u64 0, .int .u64 0, .int .u64 0, .int .u64 0, .int .u64 0] 58 (0, 0)) ∧ Below w.heap.size w wr ∧ wr.heap.size = w.heap.size + 3)) (fun kv _ => 16 - (intOf kv).toNat)
  case atStart => exact ⟨0, rfl, by omega, Lib.hid ⟨HQ0.out, HQ2.out, HB.out, HZ.out⟩⟩
  case round => as_aux_lemma =>
    obtain ⟨k, rfl, hk, HR⟩ := hrel
    rename World => V
    by_cases hk16 : k = 16
    · subst hk16
      have HM := Lib.hid HR.out.1
      have HN := Lib.hid HR.out.2.1
      rw [mixS_all HS.out.len HT.out.len] at HM
      have hsz : (u64A (withS s t)).size = 16 := by rw [u64A_size, (HS.out.with HT.out).len]
      have hone := u64A_one (withS s t)
      have HM : Hid (V.heap[w.heap.size]? = some (.cells (u64A (withS s t)) 58 (0, 0))) := HM
      obtain ⟨C, hC⟩ : ∃ C, C = u64A (withS s t) := ⟨_, rfl⟩
      rw [← hC] at HM hsz hone
      have HCe := Lib.hid hC
      have HCz := Lib.hid hsz
      have HC1 := Lib.hid hone
      clear hsz hone hC
      go_wp2_with (first
        | (refine wpList_load_row rfl 58 (Operand.tmp 2) rfl w.heap.size rfl 58 C (0, 0) _ HM.out Tryd.underlying58 rfl (by rw [HCz.out]; kernel_rfl) ?_)
        | (refine wpList_put rfl 58 (Operand.tmp 4) (Operand.tmp 19) rfl (w.heap.size + 2) 58 _ C rfl rfl HN.out (by rw [HCz.out]; rfl) (by rw [HCz.out]; kernel_rfl) HC1.out ?_))
      intro w5 hp5
      have HQ := Lib.hid hp5
      clear hp5
      go_wp2_with fail
      refine bodyPost_ret (v := .agg C) (results_cell_row rfl _ _ (w.heap.size + 2) 58 _ (0, 0) _ rfl HQ.out.at_b Tryd.underlying58 rfl (by rw [HCz.out]; kernel_rfl)) rfl ?_
      exact ⟨by rw [HCe.out], HQ.out.below HR.out.2.2.1 (by omega)⟩
    · have hlt : (k : Int) < 16 := by omega
      have dlt : decide ((k : Int) < 16) = true := by simpa using hlt
      obtain ⟨x, hx⟩ : ∃ x, s[k]? = some x := ⟨_, List.getElem?_eq_getElem (by rw [HS.out.len]; omega)⟩
      obtain ⟨y, hy⟩ : ∃ y, t[k]? = some y := ⟨_, List.getElem?_eq_getElem (by rw [HT.out.len]; omega)⟩
      have hix := HIX.out k y hy
      have c0 := u64A_at HR.out.1 (mixS_at (f := orW) HS.out.len HT.out.len hx)
      have f0 := Lib.frozen_of_heap HR.out.1 k
      have hop : bits .or .u64 (x : Int) (y : Int) = (((orW) x y : Nat) : Int) := bits64_or (HS.out.lt x (List.mem_of_getElem? hx)) (HT.out.lt y (List.mem_of_getElem? hy))
      obtain ⟨z, hz⟩ : ∃ z, z = (orW) x y := ⟨_, rfl⟩
      rw [← hz] at hop
      have HN := Lib.hid (show ∀ U, U = V.setCell ⟨w.heap.size, k, none⟩ (.int .u64 (z : Int)) → U.heap[w.heap.size]? = some (.cells (u64A (mixS orW s t (k + 1))) 58 (0, 0)) ∧ U.heap[w.heap.size + 2]? = some (.cells #[.int .u64 0, .int .u64 0, .int .u64 0, .int .u64 0, .int .u64 0, .int .u64 0, .int .u64 0, .int .u64 0, .int .u64 0, .int .u64 0, .int .u64 0, .int .u64 0, .int .u64 0, .int .u64 0, .int .u64 0, .int .u64 0] 58 (0, 0)) ∧ Below w.heap.size w U ∧ U.heap.size = w.heap.size + 3 from fun U hU => by
        rw [hU]
        refine ⟨?_, (Below.heap_setCell _ _ _ _ (by dsimp only; omega)).trans HR.out.2.1, HR.out.2.2.1.setCell (by dsimp only; omega) _, by rw [size_set]; exact HR.out.2.2.2⟩
        rw [← mixS_set HS.out.len HT.out.len hx hy, ← hz]
        exact u64A_set HR.out.1 k z)
      clear hx hy hz
      go_wp2_with fail
      go_roundw
      case rel => exact ⟨k + 1, by go_num, by omega, Lib.hid (HN.out _ rfl)⟩
      case measure => simp [intOf]; omega

set_option maxHeartbeats 8000000 in
theorem setboth_any (s t : List Nat) (w : World) (hs : SOk s) (ht : SOk t) :
    Calls Tryd.prog 23 #[setV s, setV t] w fun e w' => e = .returned (setV (bothS s t)) ∧ Below w.heap.size w w' := by
  have hA := u64A_one s
  have hB := u64A_one t
  have hAs : (u64A s).size = 16 := by rw [u64A_size, hs.len]
  have hBs : (u64A t).size = 16 := by rw [u64A_size, ht.len]
  obtain ⟨A, hAe⟩ : ∃ A, A = u64A s := ⟨_, rfl⟩
  obtain ⟨B, hBe⟩ : ∃ B, B = u64A t := ⟨_, rfl⟩
  have hix : ∀ (k y : Nat), t[k]? = some y → ∀ w, (Instr.index 58 (.agg B) (.int .i64 (k : Int))).run Tryd.prog w = .ok (.int .u64 (y : Int)) w := fun k y hy w => by rw [hBe]; exact index_set ht hy w
  unfold setV
  rw [← hAe, ← hBe]
  rw [← hAe] at hA hAs
  rw [← hBe] at hB hBs
  obtain ⟨W, hW⟩ : ∃ W, W = ((w.alloc (.cells A 58)).alloc (.cells B 58)).alloc (.cells #[.int .u64 0, .int .u64 0, .int .u64 0, .int .u64 0, .int .u64 0, .int .u64 0, .int .u64 0, .int .u64 0, .int .u64 0, .int .u64 0, .int .u64 0, .int .u64 0, .int .u64 0, .int .u64 0, .int .u64 0, .int .u64 0] 58) := ⟨_, rfl⟩
  obtain ⟨⟨hz, hb⟩, q0, q1, q2⟩ := three_box w A B #[.int .u64 0, .int .u64 0, .int .u64 0, .int .u64 0, .int .u64 0, .int .u64 0, .int .u64 0, .int .u64 0, .int .u64 0, .int .u64 0, .int .u64 0, .int .u64 0, .int .u64 0, .int .u64 0, .int .u64 0, .int .u64 0] 58 58 58
  rw [← hW] at hz hb q0 q1 q2
  rw [hAe] at q0
  have HW := Lib.hid hW
  have HQ0 := Lib.hid q0
  have HQ1 := Lib.hid q1
  have HQ2 := Lib.hid q2
  have HB := Lib.hid hb
  have HZ := Lib.hid hz
  have HBs := Lib.hid hBs
  have HS := Lib.hid hs
  have HT := Lib.hid ht
  have HIX := Lib.hid hix
  clear hW q0 q1 q2 hb hz hBs hs ht hix hA hB hAs hAe hBe
  go_enter Tryd.func23, Tryd.ntmps23
  go_wp2_with (first
    | (rw [← HW.out])
    | (refine wpList_load_row rfl 58 (Operand.tmp 3) rfl (w.heap.size + 1) rfl 58 B (0, 0) _ HQ1.out Tryd.underlying58 rfl (by rw [HBs.out]; kernel_rfl) ?_))
  go_loopw [8] (fun kv wr => ∃ (k : Nat), kv = .int .i64 (k : Int) ∧ k ≤ 16 ∧ Hid (wr.heap[w.heap.size]? = some (.cells (u64A (mixS andW s t k)) 58 (0, 0)) ∧ wr.heap[w.heap.size + 2]? = some (.cells #[.int .u64 0, .int .u64 0, .int .u64 0, .int .u64 0, .int .u64 0, .int .u64 0, .int .u64 0, .int .u64 0, .int .u64 0, .int .u64 0, .int .u64 0, .int .u64 0, .int .u64 0, .int .u64 0, .int .u64 0, .int .u64 0] 58 (0, 0)) ∧ Below w.heap.size w wr ∧ wr.heap.size = w.heap.size + 3)) (fun kv _ => 16 - (intOf kv).toNat)
  case atStart => exact ⟨0, rfl, by omega, Lib.hid ⟨HQ0.out, HQ2.out, HB.out, HZ.out⟩⟩
  case round => as_aux_lemma =>
    obtain ⟨k, rfl, hk, HR⟩ := hrel
    rename World => V
    by_cases hk16 : k = 16
    · subst hk16
      have HM := Lib.hid HR.out.1
      have HN := Lib.hid HR.out.2.1
      rw [mixS_all HS.out.len HT.out.len] at HM
      have hsz : (u64A (bothS s t)).size = 16 := by rw [u64A_size, (HS.out.both HT.out).len]
      have hone := u64A_one (bothS s t)
      have HM : Hid (V.heap[w.heap.size]? = some (.cells (u64A (bothS s t)) 58 (0, 0))) := HM
      obtain ⟨C, hC⟩ : ∃ C, C = u64A (bothS s t) := ⟨_, rfl⟩
      rw [← hC] at HM hsz hone
      have HCe := Lib.hid hC
      have HCz := Lib.hid hsz
      have HC1 := Lib.hid hone
      clear hsz hone hC
      go_wp2_with (first
        | (refine wpList_load_row rfl 58 (Operand.tmp 2) rfl w.heap.size rfl 58 C (0, 0) _ HM.out Tryd.underlying58 rfl (by rw [HCz.out]; kernel_rfl) ?_)
        | (refine wpList_put rfl 58 (Operand.tmp 4) (Operand.tmp 19) rfl (w.heap.size + 2) 58 _ C rfl rfl HN.out (by rw [HCz.out]; rfl) (by rw [HCz.out]; kernel_rfl) HC1.out ?_))
      intro w5 hp5
      have HQ := Lib.hid hp5
      clear hp5
      go_wp2_with fail
      refine bodyPost_ret (v := .agg C) (results_cell_row rfl _ _ (w.heap.size + 2) 58 _ (0, 0) _ rfl HQ.out.at_b Tryd.underlying58 rfl (by rw [HCz.out]; kernel_rfl)) rfl ?_
      exact ⟨by rw [HCe.out], HQ.out.below HR.out.2.2.1 (by omega)⟩
    · have hlt : (k : Int) < 16 := by omega
      have dlt : decide ((k : Int) < 16) = true := by simpa using hlt
      obtain ⟨x, hx⟩ : ∃ x, s[k]? = some x := ⟨_, List.getElem?_eq_getElem (by rw [HS.out.len]; omega)⟩
      obtain ⟨y, hy⟩ : ∃ y, t[k]? = some y := ⟨_, List.getElem?_eq_getElem (by rw [HT.out.len]; omega)⟩
      have hix := HIX.out k y hy
      have c0 := u64A_at HR.out.1 (mixS_at (f := andW) HS.out.len HT.out.len hx)
      have f0 := Lib.frozen_of_heap HR.out.1 k
      have hop : bits .and .u64 (x : Int) (y : Int) = (((andW) x y : Nat) : Int) := bits64_and (HS.out.lt x (List.mem_of_getElem? hx)) (HT.out.lt y (List.mem_of_getElem? hy))
      obtain ⟨z, hz⟩ : ∃ z, z = (andW) x y := ⟨_, rfl⟩
      rw [← hz] at hop
      have HN := Lib.hid (show ∀ U, U = V.setCell ⟨w.heap.size, k, none⟩ (.int .u64 (z : Int)) → U.heap[w.heap.size]? = some (.cells (u64A (mixS andW s t (k + 1))) 58 (0, 0)) ∧ U.heap[w.heap.size + 2]? = some (.cells #[.int .u64 0, .int .u64 0, .int .u64 0, .int .u64 0, .int .u64 0, .int .u64 0, .int .u64 0, .int .u64 0, .int .u64 0, .int .u64 0, .int .u64 0, .int .u64 0, .int .u64 0, .int .u64 0, .int .u64 0, .int .u64 0] 58 (0, 0)) ∧ Below w.heap.size w U ∧ U.heap.size = w.heap.size + 3 from fun U hU => by
        rw [hU]
        refine ⟨?_, (Below.heap_setCell _ _ _ _ (by dsimp only; omega)).trans HR.out.2.1, HR.out.2.2.1.setCell (by dsimp only; omega) _, by rw [size_set]; exact HR.out.2.2.2⟩
        rw [← mixS_set HS.out.len HT.out.len hx hy, ← hz]
        exact u64A_set HR.out.1 k z)
      clear hx hy hz
      go_wp2_with fail
      go_roundw
      case rel => exact ⟨k + 1, by go_num, by omega, Lib.hid (HN.out _ rfl)⟩
      case measure => simp [intOf]; omega
end Go.Proofs.YtgkjhnghibpeoaaDoor
