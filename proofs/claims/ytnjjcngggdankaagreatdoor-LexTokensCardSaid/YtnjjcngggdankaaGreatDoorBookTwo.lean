/- A Book that holds two lists of tokens: what is known of its block, of its row and of the lists, and what keeps it so. -/
import Derived.Test.YtnjjcngggdankaaGreatDoorRows
import Derived.Test.YtnjjcngggdankaaGreatDoorBookKeep
import Derived.Laws.OwnMore
import Derived.WalkKit
import Derived.Lib.Hide
namespace Go.Proofs.YtnjjcngggdankaaGreatDoor
open Go.RowKit Go.Joins

/-- The cells of a mark, and those of some. -/
def mkC (j : Nat) : List Value := [.int .u8 0, .string ⟨#[]⟩, .int .i64 0, .int .i64 (-1000 - (j : Int))]
def marks (j : Nat) : Nat → List Value
  | 0 => []
  | n + 1 => marks j n ++ mkC j
theorem marks_len (j : Nat) : ∀ n, (marks j n).length = n * 4
  | 0 => rfl
  | n + 1 => by
    have e : (mkC j).length = 4 := rfl
    rw [marks, List.length_append, marks_len j n, e]
    omega
/-- Some at the front are written over. -/
def partly (j k : Nat) (x : List Value) : List Value := marks j k ++ x.drop (k * 4)
theorem partly_none (j : Nat) (x : List Value) : partly j 0 x = x := by simp [partly, marks]
theorem partly_all (j n : Nat) (x : List Value) (h : x.length = n * 4) : partly j n x = marks j n := by
  unfold partly
  rw [List.drop_eq_nil_of_le (by omega), List.append_nil]
theorem partly_next (j k n : Nat) (x : List Value) (h : x.length = n * 4) (hk : k < n) :
    ((((partly j k x).set (k * 4) (.int .u8 0)).set (k * 4 + 1) (.string ⟨#[]⟩)).set (k * 4 + 2) (.int .i64 0)).set (k * 4 + 3) (.int .i64 (-1000 - (j : Int))) = partly j (k + 1) x := by
  have hl := marks_len j k
  unfold partly
  rw [List.drop_eq_getElem_cons (show k * 4 < x.length by omega), List.drop_eq_getElem_cons (show k * 4 + 1 < x.length by omega), List.drop_eq_getElem_cons (show k * 4 + 1 + 1 < x.length by omega), List.drop_eq_getElem_cons (show k * 4 + 1 + 1 + 1 < x.length by omega)]
  rw [List.set_append_right _ _ (by omega), List.set_append_right _ _ (by omega), List.set_append_right _ _ (by omega), List.set_append_right _ _ (by omega), hl]
  rw [show k * 4 - k * 4 = 0 by omega, show k * 4 + 1 - k * 4 = 1 by omega, show k * 4 + 2 - k * 4 = 2 by omega, show k * 4 + 3 - k * 4 = 3 by omega, show (k + 1) * 4 = k * 4 + 1 + 1 + 1 + 1 by omega]
  rw [marks, List.append_assoc]
  rfl

structure Two (B : Nat) (w0 w : World) (K gT cT : Nat) (v0 v1 : Value) (n0 n1 : Nat) (x0 x1 : List Value) : Prop where
  below : Below B w0 w
  size : B ≤ w.heap.size
  book : Bk w K 2 (.slice (some ⟨gT, 0, none⟩) 2 cT)
  kle : B ≤ K
  held : w.ownsRow B 80 2 (.slice (some ⟨gT, 0, none⟩) 2 cT) 2 [v0, .int .i64 0, v1, .int .i64 1]
  row0 : w.ownsRow B 63 4 v0 n0 x0
  row1 : w.ownsRow B 63 4 v1 n1 x1
  apart : v0.ownBlock = none ∨ v0.ownBlock ≠ v1.ownBlock

variable {B : Nat} {w0 w w' : World} {K gT cT n0 n1 : Nat} {v0 v1 : Value} {x0 x1 : List Value}
theorem Two.kept (h : Two B w0 w K gT cT v0 v1 n0 n1 x0 x1) (hb : Below w.heap.size w w') : Two B w0 w' K gT cT v0 v1 n0 n1 x0 x1 :=
  ⟨h.below.trans (hb.mono h.size), Nat.le_trans h.size hb.size, h.book.below hb, h.kle, own_below h.held hb, own_below h.row0 hb, own_below h.row1 hb, h.apart⟩
theorem Two.draws (h : Two B w0 w K gT cT v0 v1 n0 n1 x0 x1) (d : Nat) : Two B w0 (w.drewN d) K gT cT v0 v1 n0 n1 x0 x1 :=
  h.kept ⟨rfl, rfl, rfl, Nat.le_refl _, fun _ _ => rfl⟩
theorem Two.alloc (h : Two B w0 w K gT cT v0 v1 n0 n1 x0 x1) (o : Obj) : Two B w0 (w.alloc o) K gT cT v0 v1 n0 n1 x0 x1 :=
  h.kept ((Below.refl _ _).alloc (Nat.le_refl _) o)
theorem Two.drew (h : Two B w0 w K gT cT v0 v1 n0 n1 x0 x1) : Two B w0 w.drew K gT cT v0 v1 n0 n1 x0 x1 :=
  h.kept ⟨rfl, rfl, rfl, Nat.le_refl _, fun _ _ => rfl⟩

/-- What the row of lists reads. -/
theorem Two.cells (h : Two B w0 w K gT cT v0 v1 n0 n1 x0 x1) :
    w.cell? ⟨gT, 0, none⟩ = some v0 ∧ w.cell? ⟨gT, 1, none⟩ = some (.int .i64 0) ∧ w.cell? ⟨gT, 2, none⟩ = some v1 ∧ w.cell? ⟨gT, 3, none⟩ = some (.int .i64 1) :=
  ⟨h.held.cellAt 0 (by omega), h.held.cellAt 1 (by omega), h.held.cellAt 2 (by omega), h.held.cellAt 3 (by omega)⟩

theorem bk_cell (hK : Bk w K 2 (.slice (some ⟨gT, 0, none⟩) 2 cT)) (p : Addr) (hp : K ≠ p.block) (u : Value) : Bk (w.setCell p u) K 2 (.slice (some ⟨gT, 0, none⟩) 2 cT) :=
  (Below.heap_setCell w p u K hp).trans hK

/-- Four cells of the first list, of the second one, are written over. -/
theorem Two.store0 {g c : Nat} (h : Two B w0 w K gT cT (.slice (some ⟨g, 0, none⟩) n0 c) v1 n0 n1 x0 x1) (j : Nat) (a b d e : Value) :
    Two B w0 ((((w.setCell ⟨g, j, none⟩ a).setCell ⟨g, j + 1, none⟩ b).setCell ⟨g, j + 2, none⟩ d).setCell ⟨g, j + 3, none⟩ e) K gT cT (.slice (some ⟨g, 0, none⟩) n0 c) v1 n0 n1 ((((x0.set j a).set (j + 1) b).set (j + 2) d).set (j + 3) e) x1 := by
  have hBg : B ≤ g := (h.row0.lt g rfl).1
  have hKg : K ≠ g := fun e => own_book h.row0 h.book (by decide) (by rw [e]; rfl)
  have hTg : (Value.slice (some ⟨gT, 0, none⟩) 2 cT).ownBlock ≠ some g := by
    rcases own_types h.held h.row0 (by decide) with e | e
    · cases e
    · exact e
  have hVg : v1.ownBlock ≠ some g := fun e => by
    rcases h.apart with f | f
    · cases f
    · exact f (by rw [e]; rfl)
  refine ⟨below_four h.below hBg hBg hBg hBg _ _ _ _, by simpa [World.setCell] using h.size, ?_, h.kle, ?_, own_four h.row0 j a b d e, ?_, h.apart⟩
  · exact bk_cell (bk_cell (bk_cell (bk_cell h.book _ hKg _) _ hKg _) _ hKg _) _ hKg _
  · exact own_cell (own_cell (own_cell (own_cell h.held _ hTg _) _ hTg _) _ hTg _) _ hTg _
  · exact own_cell (own_cell (own_cell (own_cell h.row1 _ hVg _) _ hVg _) _ hVg _) _ hVg _
theorem Two.store1 {g c : Nat} (h : Two B w0 w K gT cT v0 (.slice (some ⟨g, 0, none⟩) n1 c) n0 n1 x0 x1) (j : Nat) (a b d e : Value) :
    Two B w0 ((((w.setCell ⟨g, j, none⟩ a).setCell ⟨g, j + 1, none⟩ b).setCell ⟨g, j + 2, none⟩ d).setCell ⟨g, j + 3, none⟩ e) K gT cT v0 (.slice (some ⟨g, 0, none⟩) n1 c) n0 n1 x0 ((((x1.set j a).set (j + 1) b).set (j + 2) d).set (j + 3) e) := by
  have hBg : B ≤ g := (h.row1.lt g rfl).1
  have hKg : K ≠ g := fun e => own_book h.row1 h.book (by decide) (by rw [e]; rfl)
  have hTg : (Value.slice (some ⟨gT, 0, none⟩) 2 cT).ownBlock ≠ some g := by
    rcases own_types h.held h.row1 (by decide) with e | e
    · cases e
    · exact e
  have hVg : v0.ownBlock ≠ some g := fun e => by
    rcases h.apart with f | f
    · rw [e] at f; cases f
    · exact f (by rw [e]; rfl)
  refine ⟨below_four h.below hBg hBg hBg hBg _ _ _ _, by simpa [World.setCell] using h.size, ?_, h.kle, ?_, ?_, own_four h.row1 j a b d e, h.apart⟩
  · exact bk_cell (bk_cell (bk_cell (bk_cell h.book _ hKg _) _ hKg _) _ hKg _) _ hKg _
  · exact own_cell (own_cell (own_cell (own_cell h.held _ hTg _) _ hTg _) _ hTg _) _ hTg _
  · exact own_cell (own_cell (own_cell (own_cell h.row0 _ hVg _) _ hVg _) _ hVg _) _ hVg _
end Go.Proofs.YtnjjcngggdankaaGreatDoor
