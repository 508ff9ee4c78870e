/- The blocks that are still to be begun, and the sides on which blocks begin, as they lie in memory. -/
import Derived.Test.YtgkjhnghibpeoaaRows
import Derived.Test.YtgkjhnghibpeoaaIrMis
import Derived.Test.YtgkjhnghibpeoaaIrSizes
import Derived.Test.YtgkjhnghibpeoaaFlMem
import Derived.LoopTactic
import Derived.LoopN
import Derived.Deep.LoopGhost
import Derived.WalkKit
import Derived.WalkSpells
import Derived.WalkLawsBesides
import Derived.Lib.Hide
import Derived.Deep.AppendLies
import Derived.Laws.OwnMore
import Derived.Laws.MakeOwn
namespace Go.Proofs.Ytgkjhnghibpeoaa
open Go.RowKit
set_option maxRecDepth 100000

def sidesA (l : List Nat) : Array Value := (l.map fun (s : Nat) => Value.int .u8 (s : Int)).toArray
def wayC (x : Nat × Nat) : List Value := [.int .i64 (x.1 : Int), .int .u8 (x.2 : Int)]
def rowS (S : List (Nat × Nat)) : List Value := S.reverse.flatMap wayC
theorem rowS_cons (x : Nat × Nat) (S : List (Nat × Nat)) : rowS (x :: S) = rowS S ++ wayC x := by simp [rowS, List.flatMap_append]
theorem rowS_len : ∀ S : List (Nat × Nat), (rowS S).length = S.length * 2 := by
  intro S
  induction S with
  | nil => rfl
  | cons x S ih => rw [rowS_cons, List.length_append, ih]; simp [wayC]; omega
def bitsN : List Nat → Nat
  | [] => 0
  | s :: l => (if s &&& 1 = 0 then 0 else 1) + (if s &&& 2 = 0 then 0 else 1) + bitsN l
theorem bitsN_le : ∀ l, bitsN l ≤ 2 * l.length := by
  intro l
  induction l with
  | nil => exact Nat.le_refl _
  | cons s l ih =>
    simp only [bitsN, List.length_cons]
    have : (if s &&& 1 = 0 then 0 else 1) ≤ 1 := by split <;> omega
    have : (if s &&& 2 = 0 then 0 else 1) ≤ 1 := by split <;> omega
    omega
theorem bits_more {s on : Nat} (hs : s ≤ 3) (hon : on = 1 ∨ on = 2) (hz : s &&& on = 0) :
    (if (s ||| on) &&& 1 = 0 then 0 else 1) + (if (s ||| on) &&& 2 = 0 then 0 else 1) = (if s &&& 1 = 0 then 0 else 1) + (if s &&& 2 = 0 then 0 else 1) + 1 := by
  have h : s = 0 ∨ s = 1 ∨ s = 2 ∨ s = 3 := by omega
  rcases h with rfl | rfl | rfl | rfl <;> rcases hon with rfl | rfl <;> first | rfl | (revert hz; decide)
theorem or_le {s on : Nat} (hs : s ≤ 3) (hon : on = 1 ∨ on = 2) : s ||| on ≤ 3 := by
  have h : s = 0 ∨ s = 1 ∨ s = 2 ∨ s = 3 := by omega
  rcases h with rfl | rfl | rfl | rfl <;> rcases hon with rfl | rfl <;> decide
theorem bitsN_set {on : Nat} (hon : on = 1 ∨ on = 2) : ∀ (l : List Nat) (t s : Nat), l[t]? = some s → s ≤ 3 → s &&& on = 0 → bitsN (l.set t (s ||| on)) = bitsN l + 1 := by
  intro l
  induction l with
  | nil => intro t s h; simp at h
  | cons a l ih =>
    intro t s h hs hz
    cases t with
    | zero =>
      simp at h; subst h
      have := bits_more hs hon hz
      simp only [List.set_cons_zero, bitsN]
      omega
    | succ t =>
      simp at h
      have := ih t s h hs hz
      simp only [List.set_cons_succ, bitsN]
      omega
/-- What is so of the work that is left. -/
structure Left (bl : List Bk) (Y : List Nat) (n f : Nat) (B : List Nat) (S : List (Nat × Nat)) : Prop where
  gives : goS bl f B S = Y
  len : B.length = n
  small : ∀ s ∈ B, s ≤ 3
  ways : ∀ x ∈ S, x.1 < n ∧ (x.2 = 1 ∨ x.2 = 2)
  fuel : 6 * n + S.length ≤ f + 3 * bitsN B
  most : f ≤ 6 * n + 1
theorem Left.done {bl : List Bk} {Y : List Nat} {n f : Nat} {B : List Nat} (h : Left bl Y n f B []) : B = Y := by
  have := h.gives
  cases f <;> exact this
theorem Left.more {bl : List Bk} {Y : List Nat} {n f : Nat} {B : List Nat} {x : Nat × Nat} {S : List (Nat × Nat)} (h : Left bl Y n f B (x :: S)) : ∃ f', f = f' + 1 := by
  have h1 := h.fuel
  have h2 := bitsN_le B
  rw [h.len] at h2
  simp only [List.length_cons] at h1
  exact ⟨f - 1, by omega⟩
theorem Left.short {bl : List Bk} {Y : List Nat} {n f : Nat} {B : List Nat} {S : List (Nat × Nat)} (h : Left bl Y n f B S) : S.length ≤ 6 * n + 1 := by
  have h1 := h.fuel
  have h2 := bitsN_le B
  have h3 := h.most
  rw [h.len] at h2
  omega
theorem Left.skip {bl : List Bk} {Y : List Nat} {n f t on s : Nat} {B : List Nat} {S : List (Nat × Nat)} (h : Left bl Y n (f + 1) B ((t, on) :: S)) (hs : B[t]? = some s) (hz : ¬ s &&& on = 0) : Left bl Y n f B S := by
  have h1 := h.fuel
  simp only [List.length_cons] at h1
  refine ⟨?_, h.len, h.small, fun x hx => h.ways x (List.mem_cons_of_mem _ hx), by omega, by have := h.most; omega⟩
  have := h.gives
  rw [goS, hs, Option.getD_some, if_neg hz] at this
  exact this
/-- The ways behind a block. -/
def waysB (b : Bk) (on : Nat) : List (Nat × Nat) := (nextL b).map fun y => (y.toNat, behL b.ins on)
theorem behL_of : ∀ (l : List In) {on : Nat}, on = 1 ∨ on = 2 → behL l on = 1 ∨ behL l on = 2 := by
  intro l
  induction l with
  | nil => intro on h; exact h
  | cons i l ih =>
    intro on h
    rw [behL]
    refine ih ?_
    unfold behI
    split
    · exact .inr rfl
    · split
      · exact .inl rfl
      · exact h
theorem nextL_len (b : Bk) : (nextL b).length ≤ 2 := by
  unfold nextL
  split
  · simp
  · split <;> simp
theorem Left.step {bl : List Bk} {Y : List Nat} {n f t on s : Nat} {B : List Nat} {S : List (Nat × Nat)} {b : Bk} (h : Left bl Y n (f + 1) B ((t, on) :: S)) (hs : B[t]? = some s) (hz : s &&& on = 0) (hb : bl[t]? = some b)
    (hy : ∀ y ∈ nextL b, 0 ≤ y ∧ y < (n : Int)) : Left bl Y n f (B.set t (s ||| on)) ((waysB b on).reverse ++ S) := by
  have h1 := h.fuel
  simp only [List.length_cons] at h1
  have hon := (h.ways _ (List.mem_cons_self ..)).2
  have hm := h.small s (List.mem_of_getElem? hs)
  have hb1 := bitsN_set hon B t s hs hm hz
  have hl := nextL_len b
  refine ⟨?_, by rw [List.length_set]; exact h.len, ?_, ?_, ?_, by have := h.most; omega⟩
  · have := h.gives
    rw [goS, hs, Option.getD_some, if_pos hz, hb] at this
    exact this
  · intro x hx
    rcases List.mem_or_eq_of_mem_set hx with hx | rfl
    · exact h.small x hx
    · exact or_le hm hon
  · intro x hx
    rcases List.mem_append.1 hx with hx | hx
    · rw [List.mem_reverse, waysB, List.mem_map] at hx
      obtain ⟨y, hy1, rfl⟩ := hx
      have := hy y hy1
      exact ⟨by simp only; omega, behL_of _ hon⟩
    · exact h.ways x (List.mem_cons_of_mem _ hx)
  · rw [List.length_append, List.length_reverse, waysB, List.length_map, hb1]
    omega

/-- How it lies in the world: the graph in a box, the sides, the ways. -/
structure BgAt (w : World) (o : Array Value) (v : Value) (B : List Nat) (S : List (Nat × Nat)) (wr : World) : Prop where
  below : Below w.heap.size w wr
  box : wr.heap[w.heap.size]? = some (.cells o 25 (0, 0))
  sides : wr.heap[w.heap.size + 1]? = some (.cells (sidesA B) 89 (0, 0))
  row : wr.ownsRow (w.heap.size + 2) 91 2 v S.length (rowS S)
theorem BgAt.size {w wr : World} {o : Array Value} {v : Value} {B : List Nat} {S : List (Nat × Nat)} (h : BgAt w o v B S wr) : w.heap.size + 1 < wr.heap.size := (Array.getElem?_eq_some_iff.1 h.sides).1
theorem BgAt.keeps {w wr wr' : World} {o : Array Value} {v : Value} {B : List Nat} {S : List (Nat × Nat)} (h : BgAt w o v B S wr) (hb : Below wr.heap.size wr wr') : BgAt w o v B S wr' := by
  have hz := h.size
  refine ⟨h.below.trans (hb.mono (by omega)), (hb.block _ (by omega)).trans h.box, (hb.block _ hz).trans h.sides, h.row.kept (row := none) ⟨hb.os, hb.tape, hb.output, hb.size, fun k hk _ => hb.block k hk⟩ ?_⟩
  cases hv : v.ownBlock <;> simp
theorem BgAt.grown {w wr wr' : World} {o : Array Value} {v v' : Value} {B : List Nat} {S S' : List (Nat × Nat)} (h : BgAt w o v B S wr) (hr : wr'.ownsRow (w.heap.size + 2) 91 2 v' S'.length (rowS S')) (hg : wr.grownBy wr' v.ownBlock) : BgAt w o v' B S' wr' := by
  have hz := h.size
  have hlo := h.row.lt
  have hne : ∀ k, k < w.heap.size + 2 → some k ≠ v.ownBlock := fun k hk e => by have := (hlo k e.symm).1; omega
  have hbl : ∀ k, k < w.heap.size + 2 → wr'.heap[k]? = wr.heap[k]? := fun k hk => hg.block k (by omega) (hne k hk)
  refine ⟨h.below.trans ⟨hg.os, hg.tape, hg.output, hg.size, fun k hk => hbl k (by omega)⟩ |> fun q => ?_, (hbl _ (by omega)).trans h.box, (hbl _ (by omega)).trans h.sides, hr⟩
  exact q
theorem BgAt.form {w wr : World} {o : Array Value} {v : Value} {B : List Nat} {S : List (Nat × Nat)} (h : BgAt w o v B S wr) : ∃ p c, v = .slice p S.length c := by
  rcases h.row.2 with ⟨rfl, h0⟩ | ⟨g, cap, cur, rfl, _⟩
  · exact ⟨none, 0, by rw [h0]⟩
  · exact ⟨_, _, rfl⟩
theorem BgAt.pop {w wr : World} {o : Array Value} {v : Value} {B : List Nat} {S : List (Nat × Nat)} {t on : Nat} (h : BgAt w o v B ((t, on) :: S) wr) :
    ∃ g cap, v = .slice (some ⟨g, 0, none⟩) (S.length + 1) cap ∧ g < wr.heap.size ∧ S.length + 1 ≤ cap ∧ cap ≤ maxLen ∧ wr.cell? ⟨g, S.length * 2, none⟩ = some (.int .i64 (t : Int)) ∧ wr.cell? ⟨g, S.length * 2 + 1, none⟩ = some (.int .u8 (on : Int)) ∧
      BgAt w o (.slice (some ⟨g, 0, none⟩) S.length cap) B S wr := by
  have hl := rowS_len S
  rcases h.row.2 with ⟨_, h0⟩ | ⟨g, cap, cur, rfl, hb, hg, hn, hm, hs, ht⟩
  · simp at h0
  simp only [List.length_cons] at hn ht
  have hc : ∀ j u, (wayC (t, on))[j]? = some u → wr.cell? ⟨g, S.length * 2 + j, none⟩ = some u := fun j u hu => by
    have hj : j < 2 := by
      rcases Nat.lt_or_ge j 2 with q | q
      · exact q
      · rw [List.getElem?_eq_none (by simp [wayC]; exact q)] at hu; cases hu
    rw [cell_of_row wr g _ cur _ (0, 0) hg, ← Array.getElem?_toList]
    have : (cur.toList.take ((S.length + 1) * 2))[S.length * 2 + j]? = some u := by rw [ht, rowS_cons, List.getElem?_append, if_neg (by omega), hl, Nat.add_sub_cancel_left]; exact hu
    rw [List.getElem?_take, if_pos (by omega)] at this
    exact this
  refine ⟨g, cap, rfl, (Array.getElem?_eq_some_iff.1 hg).1, hn, hm, hc 0 _ rfl, hc 1 _ rfl, h.below, h.box, h.sides, hl, .inr ⟨g, cap, cur, rfl, hb, hg, by omega, hm, hs, ?_⟩⟩
  have : (cur.toList.take ((S.length + 1) * 2)).take (S.length * 2) = rowS S := by rw [ht, rowS_cons, List.take_append_of_le_length (by omega), List.take_of_length_le (by omega)]
  rw [List.take_take, Nat.min_eq_left (by omega)] at this
  exact this
theorem BgAt.set {w wr : World} {o : Array Value} {v : Value} {B : List Nat} {S : List (Nat × Nat)} (h : BgAt w o v B S wr) (t x : Nat) : BgAt w o v (B.set t x) S (wr.setCell ⟨w.heap.size + 1, t, none⟩ (.int .u8 (x : Int))) := by
  have hlo := h.row.lt
  refine ⟨h.below.setCell (by show w.heap.size ≤ w.heap.size + 1; omega) _, ?_, ?_, h.row.kept (row := some (w.heap.size + 1)) ⟨rfl, rfl, rfl, by simp [World.setCell], fun k hk hne => Below.heap_setCell _ _ _ _ (by rintro rfl; exact hne rfl)⟩ ?_⟩
  · rw [Below.heap_setCell _ _ _ _ (by show w.heap.size ≠ w.heap.size + 1; omega)]; exact h.box
  · rw [heap_setCell_same wr _ t _ _ _ h.sides]
    unfold sidesA
    simp [List.map_set]
  · cases hv : v.ownBlock with
    | none => exact .inl rfl
    | some k => exact .inr (fun e => by have := (hlo k hv).1; cases e; omega)
theorem BgAt.side {w wr : World} {o : Array Value} {v : Value} {B : List Nat} {S : List (Nat × Nat)} (h : BgAt w o v B S wr) {t s : Nat} (ht : B[t]? = some s) : wr.cell? ⟨w.heap.size + 1, t, none⟩ = some (.int .u8 (s : Int)) := by
  rw [Lib.cell_of_heap h.sides]
  unfold sidesA
  simp [ht]
end Go.Proofs.Ytgkjhnghibpeoaa
