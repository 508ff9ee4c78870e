/- Small facts on rows that a call owns, for the statements that hold a Book. (The same stand in LexTwin, for a seat that has TwinTokens.) -/
import Derived.Test.YtnjjcngggdankaaGreatDoorRows
import Derived.Test.YtnjjcngggdankaaGreatDoorLexSame
import Derived.Laws.OwnMore
import Derived.Lib.SmallJoins
import Derived.WalkKit
import Derived.WalkSpells
import Derived.WalkLawsBesides
import Derived.Lib.Hide
namespace Go.Proofs.YtnjjcngggdankaaGreatDoor
open Go.RowKit Go.Joins

theorem row_one : ∀ ts : List Tok, ∀ u ∈ rowOf ts, u.oneCell' = true
  | [], u, h => by cases h
  | t :: ts, u, h => by
    rcases List.mem_append.1 (show u ∈ tokCells t ++ rowOf ts from h) with h | h
    · exact four_one _ _ _ _ u h
    · exact row_one ts u h

theorem own_slice {w : World} {base : Nat} {e : TypeId} {size n : Nat} {v : Value} {xs : List Value} (h : w.ownsRow base e size v n xs) : ∃ A c, v = .slice A n c := by
  rcases ownsRow_forms h with ⟨rfl, rfl⟩ | ⟨g, c, rfl⟩
  · exact ⟨_, _, rfl⟩
  · exact ⟨_, _, rfl⟩
theorem take_set_far {α : Type} (l : List α) (j m : Nat) (u : α) (h : m ≤ j) : (l.set j u).take m = l.take m := by
  rw [List.take_set, List.set_eq_of_length_le (by rw [List.length_take]; omega)]
theorem own_there {w : World} {base : Nat} {e : TypeId} {size g n cap : Nat} {xs : List Value} (h : w.ownsRow base e size (.slice (some ⟨g, 0, none⟩) n cap) n xs) (j : Nat) (hj : j < n * size) : ∃ u, w.cell? ⟨g, j, none⟩ = some u := by
  rw [h.cellAt j hj]
  exact ⟨_, List.getElem?_eq_getElem (by have := h.1; omega)⟩
/-- Four cells of a row are written over. -/
theorem own_four {w : World} {base : Nat} {e : TypeId} {g n cap : Nat} {xs : List Value} (h : w.ownsRow base e 4 (.slice (some ⟨g, 0, none⟩) n cap) n xs) (j : Nat) (a b c d : Value) :
    ((((w.setCell ⟨g, j, none⟩ a).setCell ⟨g, j + 1, none⟩ b).setCell ⟨g, j + 2, none⟩ c).setCell ⟨g, j + 3, none⟩ d).ownsRow base e 4 (.slice (some ⟨g, 0, none⟩) n cap) n ((((xs.set j a).set (j + 1) b).set (j + 2) c).set (j + 3) d) :=
  ((((h.stored j a).1.stored (j + 1) b).1.stored (j + 2) c).1.stored (j + 3) d).1

set_option maxHeartbeats 400000 in
/-- A mark, and the block that it is made in. -/
theorem mark_is (k : Nat) (hk : k ≤ 1000000) (w : World) :
    Calls Tryz.prog 127 #[.int .i64 (k : Int)] w fun e w' => e = .returned (.agg #[.int .u8 0, .string ⟨#[]⟩, .int .i64 0, .int .i64 (-1000 - (k : Int))]) ∧ w.alloc (.cells #[.int .u8 0, .string ⟨#[]⟩, .int .i64 0, .int .i64 (-1000 - (k : Int))] 63) = w' := by
  go_enter Tryz.func127, Tryz.ntmps127
  go_wp2
  exact bodyPost_ret (v := .agg #[.int .u8 0, .string ⟨#[]⟩, .int .i64 0, .int .i64 (-1000 - (k : Int))]) (by simp [results, Tryz.results127, go_sem]) rfl ⟨rfl, rfl⟩

end Go.Proofs.YtnjjcngggdankaaGreatDoor
