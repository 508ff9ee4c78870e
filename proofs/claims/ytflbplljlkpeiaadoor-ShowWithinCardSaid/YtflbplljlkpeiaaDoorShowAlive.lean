/- A program with a record that has no fields, as the show layer's checker goes through it. -/
import Derived.Test.YtflbplljlkpeiaaDoorRows
import Derived.Test.YtflbplljlkpeiaaDoorShowTold
import Derived.LoopN
import Derived.WalkKit
import Derived.WalkSpells
import Derived.WalkLawsBesides
import Derived.Lib.Hide
namespace Go.Proofs.YtflbplljlkpeiaaDoor
open Go.RowKit

set_option maxHeartbeats 4000000 in
theorem cprog_rec (B c b : Nat) (T : TypeId) (fr : Nat × Nat) (w : World) (h : Ck B c 0 w) (hO : w.heap[b]? = some (.cells #[.string ⟨#[114]⟩, .slice none 0 0] T fr)) :
    Calls Tryd.prog 43 #[.pointer (some ⟨c, 0, none⟩), .agg #[.slice (some ⟨b, 0, none⟩) 1 1, .slice none 0 0, .slice none 0 0, .slice none 0 0]] w (Went B c (.error 1) w) := by
  have hlt := h.lt
  have hbl : b < w.heap.size := (Array.getElem?_eq_some_iff.1 hO).1
  obtain ⟨W1, hW1⟩ : ∃ W1, W1 = w.alloc (.cells #[.slice (some ⟨b, 0, none⟩) 1 1, .slice none 0 0, .slice none 0 0, .slice none 0 0] 43) := ⟨_, rfl⟩
  have hz1 : W1.heap.size = w.heap.size + 1 := by rw [hW1]; simp
  have hO1 : W1.heap[b]? = some (.cells #[.string ⟨#[114]⟩, .slice none 0 0] T fr) := by rw [hW1, Below.heap_alloc _ _ _ hbl]; exact hO
  have r0 : W1.cell? ⟨b, 0, none⟩ = some (.string ⟨#[114]⟩) := by rw [Lib.cell_of_heap hO1]; rfl
  have r1 : W1.cell? ⟨b, 1, none⟩ = some (.slice none 0 0) := by rw [Lib.cell_of_heap hO1]; rfl
  obtain ⟨p0, p1, p2, p3⟩ := cells_prog _ _ _ _ (show W1.heap[w.heap.size]? = some (.cells #[.slice (some ⟨b, 0, none⟩) 1 1, .slice none 0 0, .slice none 0 0, .slice none 0 0] 43) by rw [hW1]; exact (MapKept.heap_alloc _ _).1)
  rw [hW1] at p0 p1 p2 p3 r0 r1
  have HD := Lib.hid (((Only.refl c w).alloc (.cells #[.slice (some ⟨b, 0, none⟩) 1 1, .slice none 0 0, .slice none 0 0, .slice none 0 0] 43)).alloc (.cells #[.string ⟨#[114]⟩, .slice none 0 0] 60))
  have HN := Lib.hid (fun w => name_any ⟨#[114]⟩ (by decide) w)
  clear h hO hO1 hW1 hz1
  go_enter Tryd.func43, Tryd.ntmps43
  go_wp2_with fail
  refine wp_loop_rounds 1 ?_
  rw [rounds_succ]
  go_wp2_with fail
  refine (most_yes 1 16 (by decide) _).mono ?_; rintro e w' ⟨rfl, rfl⟩
  go_wp2_with fail
  refine (HN.out _).mono ?_; rintro e w' ⟨rfl, rfl⟩
  go_wp2_with fail
  refine (must_no _).mono ?_; rintro e w' ⟨rfl, rfl⟩
  exact ⟨rfl, Went.no rfl HD.out⟩
end Go.Proofs.YtflbplljlkpeiaaDoor
