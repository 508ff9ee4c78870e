/- What is wrong with a statement's own form, as the show layer's checker finds it: of one that tells an expression, and of an atomic block without statements. -/
import Derived.Test.YtflbplljlkpeiaaDoorRows
import Derived.Test.YtflbplljlkpeiaaDoorShowGoes
import Derived.RegionTactic
import Derived.ChangeAlike
import Derived.Laws.StructEq
import Derived.LoopTactic
import Derived.WalkKit
import Derived.WalkSpells
import Derived.WalkLawsBesides
import Derived.Lib.Hide
namespace Go.Proofs.YtflbplljlkpeiaaDoor
open Go.RowKit

theorem own21 {w : World} {b : Nat} {T : TypeId} {fr : Nat × Nat} {a0 a1 a2 a3 a4 a5 a6 a7 a8 a9 a10 a11 a12 a13 a14 a15 a16 a17 a18 a19 a20 : Value} (h : w.heap[b]? = some (.cells #[a0, a1, a2, a3, a4, a5, a6, a7, a8, a9, a10, a11, a12, a13, a14, a15, a16, a17, a18, a19, a20] T fr)) :
    w.cell? ⟨b, 0, none⟩ = some a0 ∧ w.cell? ⟨b, 1, none⟩ = some a1 ∧ w.cell? ⟨b, 2, none⟩ = some a2 ∧ w.cell? ⟨b, 3, none⟩ = some a3 ∧ w.cell? ⟨b, 4, none⟩ = some a4 ∧ w.cell? ⟨b, 5, none⟩ = some a5 ∧ w.cell? ⟨b, 6, none⟩ = some a6 ∧ w.cell? ⟨b, 7, none⟩ = some a7 ∧ w.cell? ⟨b, 8, none⟩ = some a8 ∧ w.cell? ⟨b, 9, none⟩ = some a9 ∧ w.cell? ⟨b, 10, none⟩ = some a10 ∧ w.cell? ⟨b, 11, none⟩ = some a11 ∧ w.cell? ⟨b, 12, none⟩ = some a12 ∧ w.cell? ⟨b, 13, none⟩ = some a13 ∧ w.cell? ⟨b, 14, none⟩ = some a14 ∧ w.cell? ⟨b, 15, none⟩ = some a15 ∧ w.cell? ⟨b, 16, none⟩ = some a16 ∧ w.cell? ⟨b, 17, none⟩ = some a17 ∧ w.cell? ⟨b, 18, none⟩ = some a18 ∧ w.cell? ⟨b, 19, none⟩ = some a19 ∧ w.cell? ⟨b, 20, none⟩ = some a20 :=
  ⟨by rw [Lib.cell_of_heap h]; rfl, by rw [Lib.cell_of_heap h]; rfl, by rw [Lib.cell_of_heap h]; rfl, by rw [Lib.cell_of_heap h]; rfl, by rw [Lib.cell_of_heap h]; rfl, by rw [Lib.cell_of_heap h]; rfl, by rw [Lib.cell_of_heap h]; rfl, by rw [Lib.cell_of_heap h]; rfl, by rw [Lib.cell_of_heap h]; rfl, by rw [Lib.cell_of_heap h]; rfl, by rw [Lib.cell_of_heap h]; rfl, by rw [Lib.cell_of_heap h]; rfl, by rw [Lib.cell_of_heap h]; rfl, by rw [Lib.cell_of_heap h]; rfl, by rw [Lib.cell_of_heap h]; rfl, by rw [Lib.cell_of_heap h]; rfl, by rw [Lib.cell_of_heap h]; rfl, by rw [Lib.cell_of_heap h]; rfl, by rw [Lib.cell_of_heap h]; rfl, by rw [Lib.cell_of_heap h]; rfl, by rw [Lib.cell_of_heap h]; rfl⟩

theorem look_s {W : World} {m : Nat} (hm : IsMap W m kvs) {k : Int} {v : Value} (hx : lookI k kvs = some v) (V : World) (hV : V.heap[m]? = W.heap[m]?) :
    (Instr.lookup 90 (.map (some m)) (.int .u8 k) true).run Tryd.prog V = .ok (.tuple #[v, .bool true]) V :=
  run_look uMapS uKindS (hm.of hV) true k v hx

set_option maxHeartbeats 1000000 in
theorem right_any (k n tk tz : Int) (nm tn : ByteArray) (ao : Option Addr) (m cap : Nat) (w : World) : Calls Tryd.prog 94 #[.agg #[.int .u8 k, .int .i64 n, .string nm, .int .u8 tk, .string tn, .int .i64 tz, .slice ao m cap], .int .u8 2] w fun e w' => e = .returned (.bool true) ∧ Below w.heap.size w w' := by
  have HB := Lib.hid (below_box w (.cells #[.int .u8 k, .int .i64 n, .string nm, .int .u8 tk, .string tn, .int .i64 tz, .slice ao m cap] 33))
  go_enter Tryd.func94, Tryd.ntmps94
  go_wp2_with fail
  go_ret
  exact ⟨rfl, HB.out⟩
theorem none_zero (w : World) : Calls Tryd.prog 55 #[.agg #[.int .u8 0, .int .i64 0, .string ⟨#[]⟩, .int .u8 0, .string ⟨#[]⟩, .int .i64 0, .slice none 0 0]] w fun e w' => e = .returned (.bool true) ∧ Below w.heap.size w w' :=
  none_any ⟨0, 0, ⟨#[]⟩, 0, ⟨#[]⟩, 0⟩ none 0 0 w
set_option maxHeartbeats 1000000 in
theorem right_none (w : World) : Calls Tryd.prog 94 #[.agg #[.int .u8 0, .int .i64 0, .string ⟨#[]⟩, .int .u8 0, .string ⟨#[]⟩, .int .i64 0, .slice none 0 0], .int .u8 0] w fun e w' => e = .returned (.bool true) ∧ Below w.heap.size w w' := by
  have HB := Lib.hid (below_box w (.cells #[.int .u8 0, .int .i64 0, .string ⟨#[]⟩, .int .u8 0, .string ⟨#[]⟩, .int .i64 0, .slice none 0 0] 33))
  go_enter Tryd.func94, Tryd.ntmps94
  go_wp2_with (go_at_call 55; refine (none_zero _).mono ?_; rintro e w' ⟨rfl, hb⟩)
  go_ret
  exact ⟨rfl, HB.out.trans (hb.mono (by simp))⟩

theorem own5 {w : World} {b : Nat} {T : TypeId} {fr : Nat × Nat} {a0 a1 a2 a3 a4 : Value} (h : w.heap[b]? = some (.cells #[a0, a1, a2, a3, a4] T fr)) :
    w.cell? ⟨b, 0, none⟩ = some a0 ∧ w.cell? ⟨b, 1, none⟩ = some a1 ∧ w.cell? ⟨b, 2, none⟩ = some a2 ∧ w.cell? ⟨b, 3, none⟩ = some a3 ∧ w.cell? ⟨b, 4, none⟩ = some a4 :=
  ⟨by rw [Lib.cell_of_heap h]; rfl, by rw [Lib.cell_of_heap h]; rfl, by rw [Lib.cell_of_heap h]; rfl, by rw [Lib.cell_of_heap h]; rfl, by rw [Lib.cell_of_heap h]; rfl⟩
theorem set5 {w : World} {b : Nat} {T : TypeId} {fr : Nat × Nat} {a0 a1 a2 a3 a4 : Value} (h : w.heap[b]? = some (.cells #[a0, a1, a2, a3, a4] T fr)) (b0 b1 b2 b3 b4 : Value) :
    (((((w.setCell ⟨b, 0, none⟩ b0).setCell ⟨b, 1, none⟩ b1).setCell ⟨b, 2, none⟩ b2).setCell ⟨b, 3, none⟩ b3).setCell ⟨b, 4, none⟩ b4).heap[b]? = some (.cells #[b0, b1, b2, b3, b4] T fr) := by
  simp [World.setCell, Array.getElem?_modify, h]
theorem below_set5 {B : Nat} {a w : World} (h : Below B a w) {b : Nat} (hb : B ≤ b) (b0 b1 b2 b3 b4 : Value) :
    Below B a (((((w.setCell ⟨b, 0, none⟩ b0).setCell ⟨b, 1, none⟩ b1).setCell ⟨b, 2, none⟩ b2).setCell ⟨b, 3, none⟩ b3).setCell ⟨b, 4, none⟩ b4) :=
  ((((h.setCell (p := ⟨b, 0, none⟩) hb b0).setCell (p := ⟨b, 1, none⟩) hb b1).setCell (p := ⟨b, 2, none⟩) hb b2).setCell (p := ⟨b, 3, none⟩) hb b3).setCell (p := ⟨b, 4, none⟩) hb b4

set_option maxRecDepth 100000 in
set_option maxHeartbeats 4000000 in
theorem sform_5 (B c i : Nat) (w : World) (h : Ck B c i w) :
    Calls Tryd.prog 87 #[.pointer (some ⟨c, 0, none⟩), .agg #[.int .u8 5, .string ⟨#[]⟩, .int .u8 0, .string ⟨#[]⟩, .int .i64 0, .int .u8 0, .int .i64 0, .string ⟨#[]⟩, .int .u8 0, .string ⟨#[]⟩, .int .i64 0, .slice none 0 0, .int .u8 0, .int .i64 0, .string ⟨#[]⟩, .int .u8 0, .string ⟨#[]⟩, .int .i64 0, .slice none 0 0, .slice none 0 0, .slice none 0 0]] w fun e w' => e = .returned (.agg #[.bool false, .int .u8 0, .bool false, .bool true, .bool false]) ∧ Below w.heap.size w w' := by
  have hc := h.lt
  obtain ⟨-, -, m1, m2, -, c1, -, hM⟩ := h.reads
  have hml := hM.lt
  have hl1 := look_s hM (k := 5) (v := .agg #[.bool false, .int .u8 0, .bool false, .bool true, .bool false]) (by rfl) ((w.alloc (.cells #[.int .u8 5, .string ⟨#[]⟩, .int .u8 0, .string ⟨#[]⟩, .int .i64 0, .int .u8 0, .int .i64 0, .string ⟨#[]⟩, .int .u8 0, .string ⟨#[]⟩, .int .i64 0, .slice none 0 0, .int .u8 0, .int .i64 0, .string ⟨#[]⟩, .int .u8 0, .string ⟨#[]⟩, .int .i64 0, .slice none 0 0, .slice none 0 0, .slice none 0 0] 57)).alloc (.cells #[.bool false, .int .u8 0, .bool false, .bool false, .bool false] 117)).drew (by show ((w.alloc _).alloc _).heap[m2]? = _; rw [Below.heap_alloc _ _ _ (by simp; omega)]; exact Below.heap_alloc _ _ _ hml)
  have hl2 := look_s hM (k := 5) (v := .agg #[.bool false, .int .u8 0, .bool false, .bool true, .bool false]) (by rfl) (((w.alloc (.cells #[.int .u8 5, .string ⟨#[]⟩, .int .u8 0, .string ⟨#[]⟩, .int .i64 0, .int .u8 0, .int .i64 0, .string ⟨#[]⟩, .int .u8 0, .string ⟨#[]⟩, .int .i64 0, .slice none 0 0, .int .u8 0, .int .i64 0, .string ⟨#[]⟩, .int .u8 0, .string ⟨#[]⟩, .int .i64 0, .slice none 0 0, .slice none 0 0, .slice none 0 0] 57)).alloc (.cells #[.bool false, .int .u8 0, .bool false, .bool false, .bool false] 117)).alloc (.cells #[.bool false, .int .u8 0, .bool false, .bool false, .bool false] 117)).drew (by show (((w.alloc _).alloc _).alloc _).heap[m2]? = _; rw [Below.heap_alloc _ _ _ (by simp; omega), Below.heap_alloc _ _ _ (by simp; omega)]; exact Below.heap_alloc _ _ _ hml)
  have c1a : ((w.alloc (.cells #[.int .u8 5, .string ⟨#[]⟩, .int .u8 0, .string ⟨#[]⟩, .int .i64 0, .int .u8 0, .int .i64 0, .string ⟨#[]⟩, .int .u8 0, .string ⟨#[]⟩, .int .i64 0, .slice none 0 0, .int .u8 0, .int .i64 0, .string ⟨#[]⟩, .int .u8 0, .string ⟨#[]⟩, .int .i64 0, .slice none 0 0, .slice none 0 0, .slice none 0 0] 57)).alloc (.cells #[.bool false, .int .u8 0, .bool false, .bool false, .bool false] 117)).cell? ⟨c, 1, none⟩ = some (.map (some m2)) := by rw [World.cell?_alloc_lt _ _ _ (by simp; omega), World.cell?_alloc_lt _ _ _ hc]; exact c1
  have c1b : (((w.alloc (.cells #[.int .u8 5, .string ⟨#[]⟩, .int .u8 0, .string ⟨#[]⟩, .int .i64 0, .int .u8 0, .int .i64 0, .string ⟨#[]⟩, .int .u8 0, .string ⟨#[]⟩, .int .i64 0, .slice none 0 0, .int .u8 0, .int .i64 0, .string ⟨#[]⟩, .int .u8 0, .string ⟨#[]⟩, .int .i64 0, .slice none 0 0, .slice none 0 0, .slice none 0 0] 57)).alloc (.cells #[.bool false, .int .u8 0, .bool false, .bool false, .bool false] 117)).alloc (.cells #[.bool false, .int .u8 0, .bool false, .bool false, .bool false] 117)).cell? ⟨c, 1, none⟩ = some (.map (some m2)) := by rw [World.cell?_alloc_lt _ _ _ (by simp; omega)]; exact c1a
  obtain ⟨W3, hW3⟩ : ∃ W3, W3 = (((w.alloc (.cells #[.int .u8 5, .string ⟨#[]⟩, .int .u8 0, .string ⟨#[]⟩, .int .i64 0, .int .u8 0, .int .i64 0, .string ⟨#[]⟩, .int .u8 0, .string ⟨#[]⟩, .int .i64 0, .slice none 0 0, .int .u8 0, .int .i64 0, .string ⟨#[]⟩, .int .u8 0, .string ⟨#[]⟩, .int .i64 0, .slice none 0 0, .slice none 0 0, .slice none 0 0] 57)).alloc (.cells #[.bool false, .int .u8 0, .bool false, .bool false, .bool false] 117)).alloc (.cells #[.bool false, .int .u8 0, .bool false, .bool true, .bool false] 117)).drew := ⟨_, rfl⟩
  have hz3 : W3.heap.size = w.heap.size + 3 := by rw [hW3]; show (((w.alloc _).alloc _).alloc _).heap.size = _; simp
  have HB3 := Lib.hid (show Below w.heap.size w W3 by rw [hW3]; exact (((below_box w _).alloc (by simp) _).alloc (by simp; omega) _).drew)
  have HS3 := Lib.hid (show W3.heap[w.heap.size]? = some (.cells #[.int .u8 5, .string ⟨#[]⟩, .int .u8 0, .string ⟨#[]⟩, .int .i64 0, .int .u8 0, .int .i64 0, .string ⟨#[]⟩, .int .u8 0, .string ⟨#[]⟩, .int .i64 0, .slice none 0 0, .int .u8 0, .int .i64 0, .string ⟨#[]⟩, .int .u8 0, .string ⟨#[]⟩, .int .i64 0, .slice none 0 0, .slice none 0 0, .slice none 0 0] 57) by
    rw [hW3]
    show (((w.alloc _).alloc _).alloc _).heap[w.heap.size]? = _
    rw [Below.heap_alloc _ _ _ (by simp; omega), Below.heap_alloc _ _ _ (by simp)]
    exact (MapKept.heap_alloc _ _).1)
  have HZ3 := Lib.hid (show W3.heap[w.heap.size + 1]? = some (.cells #[.bool false, .int .u8 0, .bool false, .bool false, .bool false] 117) by
    rw [hW3]
    show (((w.alloc _).alloc _).alloc _).heap[w.heap.size + 1]? = _
    rw [Below.heap_alloc _ _ _ (by simp), show w.heap.size + 1 = (w.alloc (.cells #[.int .u8 5, .string ⟨#[]⟩, .int .u8 0, .string ⟨#[]⟩, .int .i64 0, .int .u8 0, .int .i64 0, .string ⟨#[]⟩, .int .u8 0, .string ⟨#[]⟩, .int .i64 0, .slice none 0 0, .int .u8 0, .int .i64 0, .string ⟨#[]⟩, .int .u8 0, .string ⟨#[]⟩, .int .i64 0, .slice none 0 0, .slice none 0 0, .slice none 0 0] 57)).heap.size by simp]
    exact (MapKept.heap_alloc _ _).1)
  have HC3 := Lib.hid (show W3.heap[w.heap.size + 1 + 1]? = some (.cells #[.bool false, .int .u8 0, .bool false, .bool true, .bool false] 117) by
    rw [hW3]
    show (((w.alloc _).alloc _).alloc _).heap[w.heap.size + 1 + 1]? = _
    rw [show w.heap.size + 1 + 1 = ((w.alloc (.cells #[.int .u8 5, .string ⟨#[]⟩, .int .u8 0, .string ⟨#[]⟩, .int .i64 0, .int .u8 0, .int .i64 0, .string ⟨#[]⟩, .int .u8 0, .string ⟨#[]⟩, .int .i64 0, .slice none 0 0, .int .u8 0, .int .i64 0, .string ⟨#[]⟩, .int .u8 0, .string ⟨#[]⟩, .int .i64 0, .slice none 0 0, .slice none 0 0, .slice none 0 0] 57)).alloc (.cells #[.bool false, .int .u8 0, .bool false, .bool false, .bool false] 117)).heap.size by simp]
    exact (MapKept.heap_alloc _ _).1)
  have HW := Lib.hid hW3
  have hq := noty_is (tk := 0) (tn := ⟨#[]⟩) (tz := 0) (b := true) (by rfl)
  clear h hM hW3
  go_enter Tryd.func87, Tryd.ntmps87
  go_wp2_with fail
  go_region
  all_goals
    rw [← HW.out]
    clear c1 c1a c1b hl1 hl2
    obtain ⟨s0, s1, s2, s3, s4, s5, s6, s7, s8, s9, s10, s11, s12, s13, s14, s15, s16, s17, s18, s19, s20⟩ := own21 HS3.out
    obtain ⟨z0, z1, z2, z3, z4⟩ := own5 HZ3.out
    obtain ⟨c0, c1, c2, c3, c4⟩ := own5 HC3.out
    go_wp2_with fail
    refine (must_yes _).mono ?_; rintro e w' ⟨rfl, rfl⟩
    go_wp2_with fail
    refine (right_none W3).mono ?_; rintro e w4 ⟨rfl, hb4⟩
    have hs4 := hb4.size
    have HS4 := Lib.hid ((hb4.block _ (by omega)).trans HS3.out)
    have HZ4 := Lib.hid ((hb4.block _ (by omega)).trans HZ3.out)
    have HC4 := Lib.hid ((hb4.block _ (by omega)).trans HC3.out)
    have HB4 := Lib.hid (HB3.out.trans (hb4.mono (by omega)))
    clear hb4
    clear s0 s1 s2 s3 s4 s5 s6 s7 s8 s9 s10 s11 s12 s13 s14 s15 s16 s17 s18 s19 s20 z0 z1 z2 z3 z4 c0 c1 c2 c3 c4
    obtain ⟨s0, s1, s2, s3, s4, s5, s6, s7, s8, s9, s10, s11, s12, s13, s14, s15, s16, s17, s18, s19, s20⟩ := own21 HS4.out
    obtain ⟨z0, z1, z2, z3, z4⟩ := own5 HZ4.out
    obtain ⟨c0, c1, c2, c3, c4⟩ := own5 HC4.out
    go_wp2_with fail
    refine (must_yes _).mono ?_; rintro e w' ⟨rfl, rfl⟩
    go_wp2_with fail
    refine (none_zero _).mono ?_; rintro e w5 ⟨rfl, hb5⟩
    have hs5 := hb5.size
    have HS5 := Lib.hid ((hb5.block _ (by omega)).trans HS4.out)
    have HZ5 := Lib.hid ((hb5.block _ (by omega)).trans HZ4.out)
    have HC5 := Lib.hid ((hb5.block _ (by omega)).trans HC4.out)
    have HB5 := Lib.hid (HB4.out.trans (hb5.mono (by omega)))
    clear hb5
    clear s0 s1 s2 s3 s4 s5 s6 s7 s8 s9 s10 s11 s12 s13 s14 s15 s16 s17 s18 s19 s20 z0 z1 z2 z3 z4 c0 c1 c2 c3 c4
    obtain ⟨s0, s1, s2, s3, s4, s5, s6, s7, s8, s9, s10, s11, s12, s13, s14, s15, s16, s17, s18, s19, s20⟩ := own21 HS5.out
    obtain ⟨z0, z1, z2, z3, z4⟩ := own5 HZ5.out
    obtain ⟨c0, c1, c2, c3, c4⟩ := own5 HC5.out
    have f0 : w5.frozen? ⟨w.heap.size + 1, 0, none⟩ = false := Lib.frozen_of_heap HZ5.out 0
    have f1 : w5.frozen? ⟨w.heap.size + 1, 1, none⟩ = false := Lib.frozen_of_heap HZ5.out 1
    have f2 : w5.frozen? ⟨w.heap.size + 1, 2, none⟩ = false := Lib.frozen_of_heap HZ5.out 2
    have f3 : w5.frozen? ⟨w.heap.size + 1, 3, none⟩ = false := Lib.frozen_of_heap HZ5.out 3
    have f4 : w5.frozen? ⟨w.heap.size + 1, 4, none⟩ = false := Lib.frozen_of_heap HZ5.out 4
    go_wp2_with (go_at_call 32; refine (must_yes _).mono ?_; rintro e w' ⟨rfl, rfl⟩)
    have hfin := own5 (set5 HZ5.out (.bool false) (.int .u8 0) (.bool false) (.bool true) (.bool false))
    obtain ⟨g0, g1, g2, g3, g4⟩ := hfin
    exact bodyPost_ret (v := .agg #[.bool false, .int .u8 0, .bool false, .bool true, .bool false]) (by simp [results, Tryd.results87, go_sem, g0, g1, g2, g3, g4]) rfl ⟨rfl, below_set5 HB5.out (by omega) _ _ _ _ _⟩

set_option maxRecDepth 100000 in
set_option maxHeartbeats 4000000 in
theorem sform_6 (B c i : Nat) (k n tk tz : Int) (nm tn : ByteArray) (ao : Option Addr) (m cap : Nat) (w : World) (h : Ck B c i w) :
    Calls Tryd.prog 87 #[.pointer (some ⟨c, 0, none⟩), .agg #[.int .u8 6, .string ⟨#[]⟩, .int .u8 0, .string ⟨#[]⟩, .int .i64 0, .int .u8 k, .int .i64 n, .string nm, .int .u8 tk, .string tn, .int .i64 tz, .slice ao m cap, .int .u8 0, .int .i64 0, .string ⟨#[]⟩, .int .u8 0, .string ⟨#[]⟩, .int .i64 0, .slice none 0 0, .slice none 0 0, .slice none 0 0]] w fun e w' => e = .returned (.agg #[.bool false, .int .u8 2, .bool false, .bool false, .bool false]) ∧ Below w.heap.size w w' := by
  have hc := h.lt
  obtain ⟨-, -, m1, m2, -, c1, -, hM⟩ := h.reads
  have hml := hM.lt
  have hl1 := look_s hM (k := 6) (v := .agg #[.bool false, .int .u8 2, .bool false, .bool false, .bool false]) (by rfl) ((w.alloc (.cells #[.int .u8 6, .string ⟨#[]⟩, .int .u8 0, .string ⟨#[]⟩, .int .i64 0, .int .u8 k, .int .i64 n, .string nm, .int .u8 tk, .string tn, .int .i64 tz, .slice ao m cap, .int .u8 0, .int .i64 0, .string ⟨#[]⟩, .int .u8 0, .string ⟨#[]⟩, .int .i64 0, .slice none 0 0, .slice none 0 0, .slice none 0 0] 57)).alloc (.cells #[.bool false, .int .u8 0, .bool false, .bool false, .bool false] 117)).drew (by show ((w.alloc _).alloc _).heap[m2]? = _; rw [Below.heap_alloc _ _ _ (by simp; omega)]; exact Below.heap_alloc _ _ _ hml)
  have hl2 := look_s hM (k := 6) (v := .agg #[.bool false, .int .u8 2, .bool false, .bool false, .bool false]) (by rfl) (((w.alloc (.cells #[.int .u8 6, .string ⟨#[]⟩, .int .u8 0, .string ⟨#[]⟩, .int .i64 0, .int .u8 k, .int .i64 n, .string nm, .int .u8 tk, .string tn, .int .i64 tz, .slice ao m cap, .int .u8 0, .int .i64 0, .string ⟨#[]⟩, .int .u8 0, .string ⟨#[]⟩, .int .i64 0, .slice none 0 0, .slice none 0 0, .slice none 0 0] 57)).alloc (.cells #[.bool false, .int .u8 0, .bool false, .bool false, .bool false] 117)).alloc (.cells #[.bool false, .int .u8 0, .bool false, .bool false, .bool false] 117)).drew (by show (((w.alloc _).alloc _).alloc _).heap[m2]? = _; rw [Below.heap_alloc _ _ _ (by simp; omega), Below.heap_alloc _ _ _ (by simp; omega)]; exact Below.heap_alloc _ _ _ hml)
  have c1a : ((w.alloc (.cells #[.int .u8 6, .string ⟨#[]⟩, .int .u8 0, .string ⟨#[]⟩, .int .i64 0, .int .u8 k, .int .i64 n, .string nm, .int .u8 tk, .string tn, .int .i64 tz, .slice ao m cap, .int .u8 0, .int .i64 0, .string ⟨#[]⟩, .int .u8 0, .string ⟨#[]⟩, .int .i64 0, .slice none 0 0, .slice none 0 0, .slice none 0 0] 57)).alloc (.cells #[.bool false, .int .u8 0, .bool false, .bool false, .bool false] 117)).cell? ⟨c, 1, none⟩ = some (.map (some m2)) := by rw [World.cell?_alloc_lt _ _ _ (by simp; omega), World.cell?_alloc_lt _ _ _ hc]; exact c1
  have c1b : (((w.alloc (.cells #[.int .u8 6, .string ⟨#[]⟩, .int .u8 0, .string ⟨#[]⟩, .int .i64 0, .int .u8 k, .int .i64 n, .string nm, .int .u8 tk, .string tn, .int .i64 tz, .slice ao m cap, .int .u8 0, .int .i64 0, .string ⟨#[]⟩, .int .u8 0, .string ⟨#[]⟩, .int .i64 0, .slice none 0 0, .slice none 0 0, .slice none 0 0] 57)).alloc (.cells #[.bool false, .int .u8 0, .bool false, .bool false, .bool false] 117)).alloc (.cells #[.bool false, .int .u8 0, .bool false, .bool false, .bool false] 117)).cell? ⟨c, 1, none⟩ = some (.map (some m2)) := by rw [World.cell?_alloc_lt _ _ _ (by simp; omega)]; exact c1a
  obtain ⟨W3, hW3⟩ : ∃ W3, W3 = (((w.alloc (.cells #[.int .u8 6, .string ⟨#[]⟩, .int .u8 0, .string ⟨#[]⟩, .int .i64 0, .int .u8 k, .int .i64 n, .string nm, .int .u8 tk, .string tn, .int .i64 tz, .slice ao m cap, .int .u8 0, .int .i64 0, .string ⟨#[]⟩, .int .u8 0, .string ⟨#[]⟩, .int .i64 0, .slice none 0 0, .slice none 0 0, .slice none 0 0] 57)).alloc (.cells #[.bool false, .int .u8 0, .bool false, .bool false, .bool false] 117)).alloc (.cells #[.bool false, .int .u8 2, .bool false, .bool false, .bool false] 117)).drew := ⟨_, rfl⟩
  have hz3 : W3.heap.size = w.heap.size + 3 := by rw [hW3]; show (((w.alloc _).alloc _).alloc _).heap.size = _; simp
  have HB3 := Lib.hid (show Below w.heap.size w W3 by rw [hW3]; exact (((below_box w _).alloc (by simp) _).alloc (by simp; omega) _).drew)
  have HS3 := Lib.hid (show W3.heap[w.heap.size]? = some (.cells #[.int .u8 6, .string ⟨#[]⟩, .int .u8 0, .string ⟨#[]⟩, .int .i64 0, .int .u8 k, .int .i64 n, .string nm, .int .u8 tk, .string tn, .int .i64 tz, .slice ao m cap, .int .u8 0, .int .i64 0, .string ⟨#[]⟩, .int .u8 0, .string ⟨#[]⟩, .int .i64 0, .slice none 0 0, .slice none 0 0, .slice none 0 0] 57) by
    rw [hW3]
    show (((w.alloc _).alloc _).alloc _).heap[w.heap.size]? = _
    rw [Below.heap_alloc _ _ _ (by simp; omega), Below.heap_alloc _ _ _ (by simp)]
    exact (MapKept.heap_alloc _ _).1)
  have HZ3 := Lib.hid (show W3.heap[w.heap.size + 1]? = some (.cells #[.bool false, .int .u8 0, .bool false, .bool false, .bool false] 117) by
    rw [hW3]
    show (((w.alloc _).alloc _).alloc _).heap[w.heap.size + 1]? = _
    rw [Below.heap_alloc _ _ _ (by simp), show w.heap.size + 1 = (w.alloc (.cells #[.int .u8 6, .string ⟨#[]⟩, .int .u8 0, .string ⟨#[]⟩, .int .i64 0, .int .u8 k, .int .i64 n, .string nm, .int .u8 tk, .string tn, .int .i64 tz, .slice ao m cap, .int .u8 0, .int .i64 0, .string ⟨#[]⟩, .int .u8 0, .string ⟨#[]⟩, .int .i64 0, .slice none 0 0, .slice none 0 0, .slice none 0 0] 57)).heap.size by simp]
    exact (MapKept.heap_alloc _ _).1)
  have HC3 := Lib.hid (show W3.heap[w.heap.size + 1 + 1]? = some (.cells #[.bool false, .int .u8 2, .bool false, .bool false, .bool false] 117) by
    rw [hW3]
    show (((w.alloc _).alloc _).alloc _).heap[w.heap.size + 1 + 1]? = _
    rw [show w.heap.size + 1 + 1 = ((w.alloc (.cells #[.int .u8 6, .string ⟨#[]⟩, .int .u8 0, .string ⟨#[]⟩, .int .i64 0, .int .u8 k, .int .i64 n, .string nm, .int .u8 tk, .string tn, .int .i64 tz, .slice ao m cap, .int .u8 0, .int .i64 0, .string ⟨#[]⟩, .int .u8 0, .string ⟨#[]⟩, .int .i64 0, .slice none 0 0, .slice none 0 0, .slice none 0 0] 57)).alloc (.cells #[.bool false, .int .u8 0, .bool false, .bool false, .bool false] 117)).heap.size by simp]
    exact (MapKept.heap_alloc _ _).1)
  have HW := Lib.hid hW3
  have hq := noty_is (tk := 0) (tn := ⟨#[]⟩) (tz := 0) (b := true) (by rfl)
  clear h hM hW3
  go_enter Tryd.func87, Tryd.ntmps87
  go_wp2_with fail
  go_region
  all_goals
    rw [← HW.out]
    clear c1 c1a c1b hl1 hl2
    obtain ⟨s0, s1, s2, s3, s4, s5, s6, s7, s8, s9, s10, s11, s12, s13, s14, s15, s16, s17, s18, s19, s20⟩ := own21 HS3.out
    obtain ⟨z0, z1, z2, z3, z4⟩ := own5 HZ3.out
    obtain ⟨c0, c1, c2, c3, c4⟩ := own5 HC3.out
    go_wp2_with fail
    refine (must_yes _).mono ?_; rintro e w' ⟨rfl, rfl⟩
    go_wp2_with fail
    refine (right_any k n tk tz nm tn ao m cap W3).mono ?_; rintro e w4 ⟨rfl, hb4⟩
    have hs4 := hb4.size
    have HS4 := Lib.hid ((hb4.block _ (by omega)).trans HS3.out)
    have HZ4 := Lib.hid ((hb4.block _ (by omega)).trans HZ3.out)
    have HC4 := Lib.hid ((hb4.block _ (by omega)).trans HC3.out)
    have HB4 := Lib.hid (HB3.out.trans (hb4.mono (by omega)))
    clear hb4
    clear s0 s1 s2 s3 s4 s5 s6 s7 s8 s9 s10 s11 s12 s13 s14 s15 s16 s17 s18 s19 s20 z0 z1 z2 z3 z4 c0 c1 c2 c3 c4
    obtain ⟨s0, s1, s2, s3, s4, s5, s6, s7, s8, s9, s10, s11, s12, s13, s14, s15, s16, s17, s18, s19, s20⟩ := own21 HS4.out
    obtain ⟨z0, z1, z2, z3, z4⟩ := own5 HZ4.out
    obtain ⟨c0, c1, c2, c3, c4⟩ := own5 HC4.out
    go_wp2_with fail
    refine (must_yes _).mono ?_; rintro e w' ⟨rfl, rfl⟩
    go_wp2_with fail
    refine (none_zero _).mono ?_; rintro e w5 ⟨rfl, hb5⟩
    have hs5 := hb5.size
    have HS5 := Lib.hid ((hb5.block _ (by omega)).trans HS4.out)
    have HZ5 := Lib.hid ((hb5.block _ (by omega)).trans HZ4.out)
    have HC5 := Lib.hid ((hb5.block _ (by omega)).trans HC4.out)
    have HB5 := Lib.hid (HB4.out.trans (hb5.mono (by omega)))
    clear hb5
    clear s0 s1 s2 s3 s4 s5 s6 s7 s8 s9 s10 s11 s12 s13 s14 s15 s16 s17 s18 s19 s20 z0 z1 z2 z3 z4 c0 c1 c2 c3 c4
    obtain ⟨s0, s1, s2, s3, s4, s5, s6, s7, s8, s9, s10, s11, s12, s13, s14, s15, s16, s17, s18, s19, s20⟩ := own21 HS5.out
    obtain ⟨z0, z1, z2, z3, z4⟩ := own5 HZ5.out
    obtain ⟨c0, c1, c2, c3, c4⟩ := own5 HC5.out
    have f0 : w5.frozen? ⟨w.heap.size + 1, 0, none⟩ = false := Lib.frozen_of_heap HZ5.out 0
    have f1 : w5.frozen? ⟨w.heap.size + 1, 1, none⟩ = false := Lib.frozen_of_heap HZ5.out 1
    have f2 : w5.frozen? ⟨w.heap.size + 1, 2, none⟩ = false := Lib.frozen_of_heap HZ5.out 2
    have f3 : w5.frozen? ⟨w.heap.size + 1, 3, none⟩ = false := Lib.frozen_of_heap HZ5.out 3
    have f4 : w5.frozen? ⟨w.heap.size + 1, 4, none⟩ = false := Lib.frozen_of_heap HZ5.out 4
    go_wp2_with (go_at_call 32; refine (must_yes _).mono ?_; rintro e w' ⟨rfl, rfl⟩)
    have hfin := own5 (set5 HZ5.out (.bool false) (.int .u8 2) (.bool false) (.bool false) (.bool false))
    obtain ⟨g0, g1, g2, g3, g4⟩ := hfin
    exact bodyPost_ret (v := .agg #[.bool false, .int .u8 2, .bool false, .bool false, .bool false]) (by simp [results, Tryd.results87, go_sem, g0, g1, g2, g3, g4]) rfl ⟨rfl, below_set5 HB5.out (by omega) _ _ _ _ _⟩


set_option maxHeartbeats 400000 in
theorem list_nil (c : Nat) (d : Int) (w : World) : Calls Tryd.prog 67 #[.pointer (some ⟨c, 0, none⟩), .slice none 0 0, .int .i64 d] w fun e w' => e = .returned (.tuple #[]) ∧ w = w' := by
  go_enter Tryd.func67, Tryd.ntmps67
  go_wp2_with fail
  go_loop [10] (fun i => i = .int .i64 0) (fun _ => 0)
  case atStart => rfl
  case round =>
    subst hrel
    go_wp2_with fail
    go_end0
    exact ⟨rfl, rfl⟩
end Go.Proofs.YtflbplljlkpeiaaDoor
