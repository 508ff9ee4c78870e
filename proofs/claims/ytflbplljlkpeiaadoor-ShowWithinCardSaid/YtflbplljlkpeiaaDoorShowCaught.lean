/- How the show layer catches what its walks give up with. -/
import Derived.Test.YtflbplljlkpeiaaDoorRows
import Derived.Test.YtflbplljlkpeiaaDoorShowCatch
import Derived.Tactics
import Derived.Tactics2
import Derived.Defers
import Derived.Recover
import Derived.Laws.Pointers
import Derived.WalkKit
import Derived.WalkSpells
import Derived.WalkLawsBesides
import Derived.Lib.Hide
namespace Go.Proofs.YtflbplljlkpeiaaDoor
open Go.RowKit

set_option maxHeartbeats 1000000 in
/-- What is caught of the walk that the function literal number turnstile/show.Type$1 makes: its error; 0, where it ends. -/
theorem caught_type (p : Addr) (r : Int) (hr : r = 0 ∨ r = 1 ∨ r = 3) (w : World) (h : Calls Tryd.prog 15 #[.pointer (some p)] (w.alloc (.cells #[.int .i64 0] 25)) (Ends r (w.alloc (.cells #[.int .i64 0] 25)))) :
    Calls Tryd.prog 14 #[.func (.func 15) #[] #[.pointer (some p)]] w fun e w' => e = .returned (.int .i64 r) ∧ Below w.heap.size w w' := by
  have hmf : ∀ (fn : Fn) (first cap : Array Value) (w : World), (Instr.makeFunc fn first cap).run Tryd.prog w = .ok (.func fn first cap) w := fun _ _ _ _ => rfl
  have H := Lib.hid h
  have HB0 := Lib.hid (below_box w (.cells #[.int .i64 0] 25))
  have HO := Lib.hid (MapKept.heap_alloc w (.cells #[.int .i64 0] 25)).1
  have HR := Lib.hid hr
  clear h
  by_cases h0 : r = 0
  · subst h0
    go_enter_defers Tryd.func14, Tryd.ntmps14
    go_wp2_with fail
    refine H.out.mono ?_; rintro e w2 hq; obtain ⟨rfl, hb2⟩ := hq.to0 rfl
    have hO2 := (hb2.block _ (by simp)).trans HO.out
    have c0 : w2.cell? ⟨w.heap.size, 0, none⟩ = some (.int .i64 0) := by rw [Lib.cell_of_heap hO2]; rfl
    have f0 : w2.frozen? ⟨w.heap.size, 0, none⟩ = false := Lib.frozen_of_heap hO2 0
    have HB2 := Lib.hid (HB0.out.trans (hb2.mono (by simp)))
    clear hb2 hO2 hq
    go_wp2_with fail
    have d0 : (w2.setCell ⟨w.heap.size, 0, none⟩ (.int .i64 0)).cell? ⟨w.heap.size, 0, none⟩ = some (.int .i64 0) := World.cell?_setCell_same _ _ _ c0
    refine leaves_cons (f := 31) (args := #[.pointer (some ⟨w.heap.size, 0, none⟩)]) (by simp) (by simp [go_sem]) ?_
    refine (catch_idle ⟨w.heap.size, 0, none⟩ _).mono ?_
    rintro e u' w'' ⟨rfl, rfl, rfl⟩
    simp [Leaves, settle, results, Tryd.results14, go_sem, d0]
    exact HB2.out.setCell (p := ⟨w.heap.size, 0, none⟩) (Nat.le_refl _) _
  · have hE : ∀ (e : Ending) (w2 : World), Ends r (w.alloc (.cells #[.int .i64 0] 25)) e w2 → e = .panicked (fl r) ∧ Below (w.alloc (.cells #[.int .i64 0] 25)).heap.size (w.alloc (.cells #[.int .i64 0] 25)) w2 := fun _ _ hq => ⟨hq.1.trans (ended_no h0), hq.2⟩
    have HE := Lib.hid hE
    clear hE
    go_enter_defers Tryd.func14, Tryd.ntmps14
    go_wp2_with fail
    refine H.out.mono ?_; rintro e w2 hq; obtain ⟨rfl, hb2⟩ := HE.out _ _ hq
    have hO2 := (hb2.block _ (by simp)).trans HO.out
    have c0 : w2.cell? ⟨w.heap.size, 0, none⟩ = some (.int .i64 0) := by rw [Lib.cell_of_heap hO2]; rfl
    have f0 : w2.frozen? ⟨w.heap.size, 0, none⟩ = false := Lib.frozen_of_heap hO2 0
    have HB2 := Lib.hid (HB0.out.trans (hb2.mono (by simp)))
    have hs2 := hb2.size
    simp at hs2
    clear hb2 hO2 hq
    have d0 : (((w2.alloc (.cells #[.int .i64 r] 73)).setCell ⟨w.heap.size, 0, none⟩ (.int .i64 r))).cell? ⟨w.heap.size, 0, none⟩ = some (.int .i64 r) := World.cell?_setCell_same _ _ _ (by rw [World.cell?_alloc_lt _ _ _ (by show w.heap.size < _; omega)]; exact c0)
    go_wp2_with fail
    refine leaves_cons (f := 31) (args := #[.pointer (some ⟨w.heap.size, 0, none⟩)]) (by simp) (by simp [go_sem]) ?_
    refine (catch_panicking ⟨w.heap.size, 0, none⟩ r 0 [] _ c0 f0).mono ?_
    rintro e u' w'' ⟨rfl, rfl, rfl⟩
    simp [Leaves, settle, results, Tryd.results14, go_sem, d0]
    exact (HB2.out.alloc (by omega) _).setCell (p := ⟨w.heap.size, 0, none⟩) (Nat.le_refl _) _
set_option maxHeartbeats 1000000 in
/-- What is caught of the walk that the function literal number turnstile/show.Expr$1 makes: its error; 0, where it ends. -/
theorem caught_expr (p : Addr) (r : Int) (hr : r = 0 ∨ r = 1 ∨ r = 3) (w : World) (h : Calls Tryd.prog 25 #[.pointer (some p)] (w.alloc (.cells #[.int .i64 0] 25)) (Ends r (w.alloc (.cells #[.int .i64 0] 25)))) :
    Calls Tryd.prog 14 #[.func (.func 25) #[] #[.pointer (some p)]] w fun e w' => e = .returned (.int .i64 r) ∧ Below w.heap.size w w' := by
  have hmf : ∀ (fn : Fn) (first cap : Array Value) (w : World), (Instr.makeFunc fn first cap).run Tryd.prog w = .ok (.func fn first cap) w := fun _ _ _ _ => rfl
  have H := Lib.hid h
  have HB0 := Lib.hid (below_box w (.cells #[.int .i64 0] 25))
  have HO := Lib.hid (MapKept.heap_alloc w (.cells #[.int .i64 0] 25)).1
  have HR := Lib.hid hr
  clear h
  by_cases h0 : r = 0
  · subst h0
    go_enter_defers Tryd.func14, Tryd.ntmps14
    go_wp2_with fail
    refine H.out.mono ?_; rintro e w2 hq; obtain ⟨rfl, hb2⟩ := hq.to0 rfl
    have hO2 := (hb2.block _ (by simp)).trans HO.out
    have c0 : w2.cell? ⟨w.heap.size, 0, none⟩ = some (.int .i64 0) := by rw [Lib.cell_of_heap hO2]; rfl
    have f0 : w2.frozen? ⟨w.heap.size, 0, none⟩ = false := Lib.frozen_of_heap hO2 0
    have HB2 := Lib.hid (HB0.out.trans (hb2.mono (by simp)))
    clear hb2 hO2 hq
    go_wp2_with fail
    have d0 : (w2.setCell ⟨w.heap.size, 0, none⟩ (.int .i64 0)).cell? ⟨w.heap.size, 0, none⟩ = some (.int .i64 0) := World.cell?_setCell_same _ _ _ c0
    refine leaves_cons (f := 31) (args := #[.pointer (some ⟨w.heap.size, 0, none⟩)]) (by simp) (by simp [go_sem]) ?_
    refine (catch_idle ⟨w.heap.size, 0, none⟩ _).mono ?_
    rintro e u' w'' ⟨rfl, rfl, rfl⟩
    simp [Leaves, settle, results, Tryd.results14, go_sem, d0]
    exact HB2.out.setCell (p := ⟨w.heap.size, 0, none⟩) (Nat.le_refl _) _
  · have hE : ∀ (e : Ending) (w2 : World), Ends r (w.alloc (.cells #[.int .i64 0] 25)) e w2 → e = .panicked (fl r) ∧ Below (w.alloc (.cells #[.int .i64 0] 25)).heap.size (w.alloc (.cells #[.int .i64 0] 25)) w2 := fun _ _ hq => ⟨hq.1.trans (ended_no h0), hq.2⟩
    have HE := Lib.hid hE
    clear hE
    go_enter_defers Tryd.func14, Tryd.ntmps14
    go_wp2_with fail
    refine H.out.mono ?_; rintro e w2 hq; obtain ⟨rfl, hb2⟩ := HE.out _ _ hq
    have hO2 := (hb2.block _ (by simp)).trans HO.out
    have c0 : w2.cell? ⟨w.heap.size, 0, none⟩ = some (.int .i64 0) := by rw [Lib.cell_of_heap hO2]; rfl
    have f0 : w2.frozen? ⟨w.heap.size, 0, none⟩ = false := Lib.frozen_of_heap hO2 0
    have HB2 := Lib.hid (HB0.out.trans (hb2.mono (by simp)))
    have hs2 := hb2.size
    simp at hs2
    clear hb2 hO2 hq
    have d0 : (((w2.alloc (.cells #[.int .i64 r] 73)).setCell ⟨w.heap.size, 0, none⟩ (.int .i64 r))).cell? ⟨w.heap.size, 0, none⟩ = some (.int .i64 r) := World.cell?_setCell_same _ _ _ (by rw [World.cell?_alloc_lt _ _ _ (by show w.heap.size < _; omega)]; exact c0)
    go_wp2_with fail
    refine leaves_cons (f := 31) (args := #[.pointer (some ⟨w.heap.size, 0, none⟩)]) (by simp) (by simp [go_sem]) ?_
    refine (catch_panicking ⟨w.heap.size, 0, none⟩ r 0 [] _ c0 f0).mono ?_
    rintro e u' w'' ⟨rfl, rfl, rfl⟩
    simp [Leaves, settle, results, Tryd.results14, go_sem, d0]
    exact (HB2.out.alloc (by omega) _).setCell (p := ⟨w.heap.size, 0, none⟩) (Nat.le_refl _) _
set_option maxHeartbeats 1000000 in
/-- What is caught of the walk that the function literal number turnstile/show.Check$1 makes: its error; 0, where it ends. -/
theorem caught_check (p : Addr) (r : Int) (hr : r = 0 ∨ r = 1 ∨ r = 3) (w : World) (h : Calls Tryd.prog 42 #[.pointer (some p)] (w.alloc (.cells #[.int .i64 0] 25)) (Ends r (w.alloc (.cells #[.int .i64 0] 25)))) :
    Calls Tryd.prog 14 #[.func (.func 42) #[] #[.pointer (some p)]] w fun e w' => e = .returned (.int .i64 r) ∧ Below w.heap.size w w' := by
  have hmf : ∀ (fn : Fn) (first cap : Array Value) (w : World), (Instr.makeFunc fn first cap).run Tryd.prog w = .ok (.func fn first cap) w := fun _ _ _ _ => rfl
  have H := Lib.hid h
  have HB0 := Lib.hid (below_box w (.cells #[.int .i64 0] 25))
  have HO := Lib.hid (MapKept.heap_alloc w (.cells #[.int .i64 0] 25)).1
  have HR := Lib.hid hr
  clear h
  by_cases h0 : r = 0
  · subst h0
    go_enter_defers Tryd.func14, Tryd.ntmps14
    go_wp2_with fail
    refine H.out.mono ?_; rintro e w2 hq; obtain ⟨rfl, hb2⟩ := hq.to0 rfl
    have hO2 := (hb2.block _ (by simp)).trans HO.out
    have c0 : w2.cell? ⟨w.heap.size, 0, none⟩ = some (.int .i64 0) := by rw [Lib.cell_of_heap hO2]; rfl
    have f0 : w2.frozen? ⟨w.heap.size, 0, none⟩ = false := Lib.frozen_of_heap hO2 0
    have HB2 := Lib.hid (HB0.out.trans (hb2.mono (by simp)))
    clear hb2 hO2 hq
    go_wp2_with fail
    have d0 : (w2.setCell ⟨w.heap.size, 0, none⟩ (.int .i64 0)).cell? ⟨w.heap.size, 0, none⟩ = some (.int .i64 0) := World.cell?_setCell_same _ _ _ c0
    refine leaves_cons (f := 31) (args := #[.pointer (some ⟨w.heap.size, 0, none⟩)]) (by simp) (by simp [go_sem]) ?_
    refine (catch_idle ⟨w.heap.size, 0, none⟩ _).mono ?_
    rintro e u' w'' ⟨rfl, rfl, rfl⟩
    simp [Leaves, settle, results, Tryd.results14, go_sem, d0]
    exact HB2.out.setCell (p := ⟨w.heap.size, 0, none⟩) (Nat.le_refl _) _
  · have hE : ∀ (e : Ending) (w2 : World), Ends r (w.alloc (.cells #[.int .i64 0] 25)) e w2 → e = .panicked (fl r) ∧ Below (w.alloc (.cells #[.int .i64 0] 25)).heap.size (w.alloc (.cells #[.int .i64 0] 25)) w2 := fun _ _ hq => ⟨hq.1.trans (ended_no h0), hq.2⟩
    have HE := Lib.hid hE
    clear hE
    go_enter_defers Tryd.func14, Tryd.ntmps14
    go_wp2_with fail
    refine H.out.mono ?_; rintro e w2 hq; obtain ⟨rfl, hb2⟩ := HE.out _ _ hq
    have hO2 := (hb2.block _ (by simp)).trans HO.out
    have c0 : w2.cell? ⟨w.heap.size, 0, none⟩ = some (.int .i64 0) := by rw [Lib.cell_of_heap hO2]; rfl
    have f0 : w2.frozen? ⟨w.heap.size, 0, none⟩ = false := Lib.frozen_of_heap hO2 0
    have HB2 := Lib.hid (HB0.out.trans (hb2.mono (by simp)))
    have hs2 := hb2.size
    simp at hs2
    clear hb2 hO2 hq
    have d0 : (((w2.alloc (.cells #[.int .i64 r] 73)).setCell ⟨w.heap.size, 0, none⟩ (.int .i64 r))).cell? ⟨w.heap.size, 0, none⟩ = some (.int .i64 r) := World.cell?_setCell_same _ _ _ (by rw [World.cell?_alloc_lt _ _ _ (by show w.heap.size < _; omega)]; exact c0)
    go_wp2_with fail
    refine leaves_cons (f := 31) (args := #[.pointer (some ⟨w.heap.size, 0, none⟩)]) (by simp) (by simp [go_sem]) ?_
    refine (catch_panicking ⟨w.heap.size, 0, none⟩ r 0 [] _ c0 f0).mono ?_
    rintro e u' w'' ⟨rfl, rfl, rfl⟩
    simp [Leaves, settle, results, Tryd.results14, go_sem, d0]
    exact (HB2.out.alloc (by omega) _).setCell (p := ⟨w.heap.size, 0, none⟩) (Nat.le_refl _) _
end Go.Proofs.YtflbplljlkpeiaaDoor
