/- Of a program whose one thread tells an expression: how the show layer's Items, and its Program, answer. -/
import Derived.Test.YtflbplljlkpeiaaDoorRows
import Derived.Test.YtflbplljlkpeiaaDoorShowProg
import Derived.Test.YtflbplljlkpeiaaDoorShowOne
import Derived.Test.YtflbplljlkpeiaaDoorShowMade
import Derived.LoopN
import Derived.WalkKit
import Derived.WalkSpells
import Derived.WalkLawsBesides
import Derived.Lib.Hide
namespace Go.Proofs.YtflbplljlkpeiaaDoor
open Go.RowKit

set_option maxHeartbeats 2000000 in
theorem sitems_any (n : Int) (h0 : 0 ≤ n) (h1 : n ≤ 300000) (b g : Nat) (T : TypeId) (fr : Nat × Nat) (w : World) (hO : w.heap[g]? = some (.cells #[.slice (some ⟨b, 0, none⟩) 1 1] T fr))
    (HL : ∀ w', Below w.heap.size w w' → Calls Tryd.prog 30 #[.slice (some ⟨b, 0, none⟩) 1 1] w' fun e w'' => e = .returned (.int .i64 n) ∧ Below w'.heap.size w' w'') :
    Calls Tryd.prog 13 #[.agg #[.slice none 0 0, .slice none 0 0, .slice none 0 0, .slice (some ⟨g, 0, none⟩) 1 1]] w fun e w' => e = .returned (.int .i64 n) ∧ Below w.heap.size w w' := by
  have hgl : g < w.heap.size := (Array.getElem?_eq_some_iff.1 hO).1
  obtain ⟨W1, hW1⟩ : ∃ W1, W1 = w.alloc (.cells #[.slice none 0 0, .slice none 0 0, .slice none 0 0, .slice (some ⟨g, 0, none⟩) 1 1] 43) := ⟨_, rfl⟩
  have hb1 : Below w.heap.size w W1 := by rw [hW1]; exact below_box w _
  obtain ⟨p0, p1, p2, p3⟩ := own_prog _ _ _ _ (show W1.heap[w.heap.size]? = some (.cells #[.slice none 0 0, .slice none 0 0, .slice none 0 0, .slice (some ⟨g, 0, none⟩) 1 1] 43) by rw [hW1]; exact (MapKept.heap_alloc _ _).1)
  have hO1 : W1.heap[g]? = some (.cells #[.slice (some ⟨b, 0, none⟩) 1 1] T fr) := by rw [hW1, Below.heap_alloc _ _ _ hgl]; exact hO
  have hcg : W1.cell? ⟨g, 0, none⟩ = some (.slice (some ⟨b, 0, none⟩) 1 1) := by rw [Lib.cell_of_heap hO1]; rfl
  have hL := HL W1 hb1
  rw [hW1] at p0 p1 p2 p3 hcg hL
  have HLL := Lib.hid hL
  have HB1 := Lib.hid hb1
  have HZ := Lib.hid hW1
  clear hO hO1 hW1 hL HL hb1
  go_enter Tryd.func13, Tryd.ntmps13
  go_wp2_with fail
  refine wp_loop_rounds 1 ?_
  rw [rounds_succ]
  go_wp2_with fail
  refine wp_loop_rounds 2 ?_
  rw [rounds_succ]
  go_wp2_with fail
  refine HLL.out.mono ?_; rintro e w2 ⟨rfl, hb2⟩
  rw [← HZ.out] at hb2
  have HB2 := Lib.hid (HB1.out.trans (hb2.mono HB1.out.size))
  clear p0 p1 p2 p3 hcg hb2
  go_wp2_with fail
  rw [rounds_succ]
  go_wp2_with fail
  go_ret
  exact ⟨rfl, HB2.out⟩
end Go.Proofs.YtflbplljlkpeiaaDoor
