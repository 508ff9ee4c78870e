/- Rows of numbers and truths in memory, and what is written. Nothing here is a walk. -/
import Derived.Test.YtgkjhnghibpeoaaDoorRows
import Derived.Test.YtgkjhnghibpeoaaDoorIrNew
import Derived.Test.YtgkjhnghibpeoaaDoorFlDom
import Derived.Deep.MidRow
import Derived.Deep.WholeRow
import Derived.Laws.Rows
import Derived.Lib.Hide
import Derived.Test.YtgkjhnghibpeoaaDoorLvFits
import Derived.Test.YtgkjhnghibpeoaaDoorIrLeaf
import Derived.RangeFuncNested
import Derived.RangeFuncBound
import Derived.RangeFuncCalls
import Derived.RangeFuncLeaves
import Derived.Shelf.Abstract
import Derived.Shelf.RegionOpen
import Derived.WalkKit
import Derived.OwnWalkIn
import Derived.TacticsInMore
import Derived.LoopNIn
import Derived.LoopIn
namespace Go.Proofs.YtgkjhnghibpeoaaDoor
open Go Go.RowKit

/-- Nothing that there was is written but the blocks of S. -/
structure Wr (S : Nat → Prop) (w w' : World) : Prop where
  os : w'.os = w.os
  tape : w'.tape = w.tape
  output : w'.output = w.output
  size : w.heap.size ≤ w'.heap.size
  block : ∀ g, g < w.heap.size → ¬ S g → w'.heap[g]? = w.heap[g]?
theorem Wr.refl (S : Nat → Prop) (w : World) : Wr S w w := ⟨rfl, rfl, rfl, Nat.le_refl _, fun _ _ _ => rfl⟩
theorem Wr.trans {S : Nat → Prop} {a b c : World} (h : Wr S a b) (k : Wr S b c) : Wr S a c :=
  ⟨k.os.trans h.os, k.tape.trans h.tape, k.output.trans h.output, Nat.le_trans h.size k.size, fun g h1 h2 => (k.block g (Nat.lt_of_lt_of_le h1 h.size) h2).trans (h.block g h1 h2)⟩
theorem Wr.of {S : Nat → Prop} {w w' : World} (h : Below w.heap.size w w') : Wr S w w' := ⟨h.os, h.tape, h.output, h.size, fun g h1 _ => h.block g h1⟩
theorem Wr.below {S : Nat → Prop} {B : Nat} {w w' : World} (h : Wr S w w') (hS : ∀ b, S b → B ≤ b) (hB : B ≤ w.heap.size) : Below B w w' :=
  ⟨h.os, h.tape, h.output, h.size, fun g hg => h.block g (by omega) (fun hs => by have := hS g hs; omega)⟩
theorem Wr.mono {S S' : Nat → Prop} {w w' : World} (h : Wr S w w') (hS : ∀ b, S b → S' b) : Wr S' w w' := ⟨h.os, h.tape, h.output, h.size, fun g h1 h2 => h.block g h1 (fun q => h2 (hS g q))⟩
theorem Wr.set {S : Nat → Prop} (w : World) {b i : Nat} (h : S b) (v : Value) : Wr S w (w.setCell ⟨b, i, none⟩ v) :=
  ⟨rfl, rfl, rfl, by simp [World.setCell], fun g _ h2 => Below.heap_setCell _ _ _ _ (by show g ≠ b; rintro rfl; exact h2 h)⟩
theorem Wr.drew {S : Nat → Prop} {a b : World} (h : Wr S a b) : Wr S a b.drew := ⟨h.os, h.tape, h.output, h.size, h.block⟩
theorem Wr.low {S S' : Nat → Prop} {a b c : World} (h : Below a.heap.size a b) (k : Wr S b c) (hS : ∀ g, g < a.heap.size → S g → S' g) : Wr S' a c :=
  ⟨k.os.trans h.os, k.tape.trans h.tape, k.output.trans h.output, Nat.le_trans h.size k.size, fun g h1 h2 => (k.block g (Nat.lt_of_lt_of_le h1 h.size) (fun q => h2 (hS g h1 q))).trans (h.block g h1)⟩
theorem size_set (w : World) (p : Addr) (v : Value) : (w.setCell p v).heap.size = w.heap.size := by simp [World.setCell]

def boolA (l : List Bool) : Array Value := (l.map Value.bool).toArray
def intA (l : List Int) : Array Value := (l.map (Value.int .i64)).toArray
def natA (l : List Nat) : Array Value := (l.map fun (n : Nat) => Value.int .i64 (n : Int)).toArray
def u64A (l : List Nat) : Array Value := (l.map fun (n : Nat) => Value.int .u64 (n : Int)).toArray
section
variable {w : World} {b i : Nat} {T : TypeId} {fr : Nat × Nat}
theorem boolA_at {l : List Bool} {x : Bool} (h : w.heap[b]? = some (.cells (boolA l) T fr)) (hx : l[i]? = some x) : w.cell? ⟨b, i, none⟩ = some (.bool x) := by
  rw [Lib.cell_of_heap h]; simp [boolA, hx]
theorem intA_at {l : List Int} {x : Int} (h : w.heap[b]? = some (.cells (intA l) T fr)) (hx : l[i]? = some x) : w.cell? ⟨b, i, none⟩ = some (.int .i64 x) := by
  rw [Lib.cell_of_heap h]; simp [intA, hx]
theorem natA_at {l : List Nat} {x : Nat} (h : w.heap[b]? = some (.cells (natA l) T fr)) (hx : l[i]? = some x) : w.cell? ⟨b, i, none⟩ = some (.int .i64 (x : Int)) := by
  rw [Lib.cell_of_heap h]; simp [natA, hx]
theorem u64A_at {l : List Nat} {x : Nat} (h : w.heap[b]? = some (.cells (u64A l) T fr)) (hx : l[i]? = some x) : w.cell? ⟨b, i, none⟩ = some (.int .u64 (x : Int)) := by
  rw [Lib.cell_of_heap h]; simp [u64A, hx]
theorem boolA_set {l : List Bool} (h : w.heap[b]? = some (.cells (boolA l) T (0, 0))) (k : Nat) (x : Bool) : (w.setCell ⟨b, k, none⟩ (.bool x)).heap[b]? = some (.cells (boolA (l.set k x)) T (0, 0)) := by
  rw [heap_setCell_same w _ k _ _ _ h]; unfold boolA; simp [List.map_set]
theorem intA_set {l : List Int} (h : w.heap[b]? = some (.cells (intA l) T (0, 0))) (k : Nat) (x : Int) : (w.setCell ⟨b, k, none⟩ (.int .i64 x)).heap[b]? = some (.cells (intA (l.set k x)) T (0, 0)) := by
  rw [heap_setCell_same w _ k _ _ _ h]; unfold intA; simp [List.map_set]
theorem natA_set {l : List Nat} (h : w.heap[b]? = some (.cells (natA l) T (0, 0))) (k : Nat) (x : Nat) : (w.setCell ⟨b, k, none⟩ (.int .i64 (x : Int))).heap[b]? = some (.cells (natA (l.set k x)) T (0, 0)) := by
  rw [heap_setCell_same w _ k _ _ _ h]; unfold natA; simp [List.map_set]
theorem u64A_set {l : List Nat} (h : w.heap[b]? = some (.cells (u64A l) T (0, 0))) (k : Nat) (x : Nat) : (w.setCell ⟨b, k, none⟩ (.int .u64 (x : Int))).heap[b]? = some (.cells (u64A (l.set k x)) T (0, 0)) := by
  rw [heap_setCell_same w _ k _ _ _ h]; unfold u64A; simp [List.map_set]
theorem one_set {x v : Value} (h : w.heap[b]? = some (.cells #[x] T (0, 0))) : (w.setCell ⟨b, 0, none⟩ v).heap[b]? = some (.cells #[v] T (0, 0)) := by
  rw [heap_setCell_same w _ 0 _ _ _ h]; rfl
theorem one_at {x : Value} (h : w.heap[b]? = some (.cells #[x] T fr)) : w.cell? ⟨b, 0, none⟩ = some x := by rw [Lib.cell_of_heap h]; rfl
end
/-- A list of numbers that lies in new memory. -/
def RowAt (w : World) (lo : Nat) (v : Value) (l : List Int) : Prop :=
  ∃ ao cap, v = .slice ao l.length cap ∧ (0 < l.length → ∃ gN off, ao = some ⟨gN, off, none⟩ ∧ lo ≤ gN ∧ gN < w.heap.size ∧ ∀ k x, l[k]? = some x → w.cell? ⟨gN, off + k, none⟩ = some (.int .i64 x))
theorem RowAt.keeps {w w' : World} {lo : Nat} {v : Value} {l : List Int} {S : Nat → Prop} (h : RowAt w lo v l) (hw : Wr S w w') (hS : ∀ b, S b → b < lo) : RowAt w' lo v l := by
  obtain ⟨ao, cap, e, h⟩ := h
  refine ⟨ao, cap, e, fun h0 => ?_⟩
  obtain ⟨gN, off, e1, h1, h2, h3⟩ := h h0
  exact ⟨gN, off, e1, h1, Nat.lt_of_lt_of_le h2 hw.size, fun k x hx => (World.cell?_of_block (hw.block gN h2 (fun q => by have := hS gN q; omega))).trans (h3 k x hx)⟩
theorem RowAt.belowK {w w' : World} {lo : Nat} {v : Value} {l : List Int} (h : RowAt w lo v l) (hw : Below w.heap.size w w') : RowAt w' lo v l := h.keeps (Wr.of (S := fun _ => False) hw) (fun _ q => q.elim)
theorem RowAt.down {w : World} {lo lo' : Nat} {v : Value} {l : List Int} (h : RowAt w lo v l) (hl : lo' ≤ lo) : RowAt w lo' v l := by
  obtain ⟨ao, cap, e, h⟩ := h
  refine ⟨ao, cap, e, fun h0 => ?_⟩
  obtain ⟨gN, off, e1, h1, h2, h3⟩ := h h0
  exact ⟨gN, off, e1, by omega, h2, h3⟩
theorem RowAt.form {w : World} {lo : Nat} {v : Value} {l : List Int} (h : RowAt w lo v l) : ∃ ao cap, v = .slice ao l.length cap := by
  obtain ⟨ao, cap, e, _⟩ := h; exact ⟨ao, cap, e⟩
theorem RowAt.get {w : World} {lo : Nat} {v : Value} {l : List Int} {ao : Option Addr} {n cap : Nat} (h : RowAt w lo v l) (e : v = .slice ao n cap) {k : Nat} (hk : k < l.length) : ∃ gN off, ao = some ⟨gN, off, none⟩ ∧ lo ≤ gN ∧ gN < w.heap.size ∧ w.cell? ⟨gN, off + k, none⟩ = some (.int .i64 l[k]) := by
  obtain ⟨ao', cap', e', h⟩ := h
  rw [e] at e'
  cases e'
  obtain ⟨gN, off, e1, h1, h2, h3⟩ := h (by omega)
  exact ⟨gN, off, e1, h1, h2, h3 k _ (List.getElem?_eq_getElem hk)⟩
theorem make_list (T E : TypeId) (z : Value) (bytes : Nat) (hI : (Tryd.prog.info? E).map (fun i => (i.zero, i.size, i.bytes)) = some (some z, 1, bytes)) (hz1 : z.cells = #[z]) (hu : Tryd.prog.underlying T = some (.slice E)) (n : Nat) (hn : n ≤ 8192) (hb : bytes ≤ 64) (w : World) :
    (Instr.makeSlice T (.int .i64 (n : Int)) (.int .i64 (n : Int))).run Tryd.prog w = .ok (.slice (some ⟨w.heap.size, 0, none⟩) n n) (w.alloc (.cells (List.replicate n z).toArray E)) := by
  obtain ⟨i0, hi, hz0, hz, hz2⟩ := info_parts hI
  have hm : n * bytes ≤ 8192 * 64 := Nat.mul_le_mul hn hb
  have hm2 : ((n * bytes : Nat) : Int) ≤ 524288 := by omega
  rw [Int.natCast_mul, Int.mul_comm] at hm2
  have h := run_make (P := Tryd.prog) w T E i0 z hu hi hz0 .i64 .i64 (n : Int) (n : Int) (by omega) (by omega) (by rw [hz2]; omega) (by omega)
  rw [hz, Int.toNat_natCast, Nat.mul_one] at h
  rw [h, hz1, ← made_one]
end Go.Proofs.YtgkjhnghibpeoaaDoor
namespace Go.Proofs.YtgkjhnghibpeoaaDoor
open Go.RowKit

/-- The world w', where block b holds this, and all else is as it was in w. -/
structure Put (b : Nat) (o : Obj) (w w' : World) : Prop where
  os : w'.os = w.os
  tape : w'.tape = w.tape
  output : w'.output = w.output
  size : w'.heap.size = w.heap.size
  at_b : w'.heap[b]? = some o
  rest : ∀ k, k ≠ b → w'.heap[k]? = w.heap[k]?

theorem heap_setCells (b : Nat) (T : TypeId) : ∀ (vs : List Value) (o : Nat) (w : World) (old : Array Value), w.heap[b]? = some (.cells old T (0, 0)) →
    ∃ new, (w.setCells b o vs).heap[b]? = some (.cells new T (0, 0)) ∧ new.size = old.size ∧ ∀ j, new[j]? = if o ≤ j ∧ j < o + vs.length ∧ j < old.size then vs[j - o]? else old[j]?
  | [], o, w, old, h => ⟨old, h, rfl, fun j => by rw [if_neg (by simp; omega)]⟩
  | v :: r, o, w, old, h => by
    have h1 : (w.setCell ⟨b, o, none⟩ v).heap[b]? = some (.cells (old.setIfInBounds o v) T (0, 0)) := by
      simp [World.setCell, Array.getElem?_modify, h]
    obtain ⟨new, h2, h3, h4⟩ := heap_setCells b T r (o + 1) _ _ h1
    refine ⟨new, h2, by simpa using h3, fun j => ?_⟩
    rw [h4 j]
    simp only [List.length_cons, Array.size_setIfInBounds]
    by_cases hj : o + 1 ≤ j ∧ j < o + 1 + r.length ∧ j < old.size
    · rw [if_pos hj, if_pos (by omega), show j - o = (j - (o + 1)) + 1 by omega, List.getElem?_cons_succ]
    · rw [if_neg hj, Array.getElem?_setIfInBounds]
      by_cases hjo : o = j
      · subst hjo
        by_cases hl : o < old.size
        · rw [if_pos rfl, if_pos hl, if_pos (by omega)]; simp
        · rw [if_pos rfl, if_neg hl, if_neg (by omega), Array.getElem?_eq_none (by omega)]
      · rw [if_neg hjo, if_neg (by omega)]
theorem setCells_rest (b : Nat) : ∀ (vs : List Value) (o : Nat) (w : World), (w.setCells b o vs).os = w.os ∧ (w.setCells b o vs).tape = w.tape ∧ (w.setCells b o vs).output = w.output ∧ (w.setCells b o vs).heap.size = w.heap.size ∧ ∀ k, k ≠ b → (w.setCells b o vs).heap[k]? = w.heap[k]?
  | [], _, _ => ⟨rfl, rfl, rfl, rfl, fun _ _ => rfl⟩
  | v :: r, o, w => by
    obtain ⟨h1, h2, h3, h4, h5⟩ := setCells_rest b r (o + 1) (w.setCell ⟨b, o, none⟩ v)
    exact ⟨h1, h2, h3, by rw [show (w.setCells b o (v :: r)) = (w.setCell ⟨b, o, none⟩ v).setCells b (o + 1) r from rfl, h4]; simp [World.setCell], fun k hk => (h5 k hk).trans (Below.heap_setCell _ _ _ _ (by simpa using hk))⟩
theorem there_of {w : World} {b o n : Nat} {T : TypeId} {old : Array Value} (h : w.heap[b]? = some (.cells old T (0, 0))) (hn : o + n ≤ old.size) : w.there b o n := fun j hj => by
  rw [Lib.cell_of_heap h]
  exact ⟨by rw [Array.getElem?_eq_getElem (by omega)]; rfl, Lib.frozen_of_heap h _⟩

section
variable {P : Program} {ops : Array Oper} {rest : List Oper} {op : Oper} {a : Act} {w : World} {Q : Exit → Act → World → Prop}
/-- A store of a whole value at the place o of a block: the block holds new then. -/
theorem wp_put_at {K : Act → World → Prop} (ty : TypeId) (x y : Operand) (ho : op.op = .store ty x y) (b o : Nat) (T : TypeId) (old cells new : Array Value)
    (hx : a.eval x = .pointer (some ⟨b, o, none⟩)) (hy : a.eval y = .agg cells) (hb : w.heap[b]? = some (.cells old T (0, 0))) (hs : o + cells.size ≤ old.size) (hi : (P.info? ty).map (·.size) = some cells.size) (h1 : cells.all (·.oneCell') = true)
    (hnew : new = old.extract 0 o ++ cells ++ old.extract (o + cells.size) old.size)
    (h : ∀ w', Put b (.cells new T (0, 0)) w w' → K (a.put op.dst undef) w') : op.wp P a w K Q := by
  refine wp_store_mid ty x y ho b o cells hx hy (there_of hb hs) hi h1 (h _ ?_)
  obtain ⟨g1, g2, g3, g4, g5⟩ := setCells_rest b cells.toList o w
  obtain ⟨n2, k1, k2, k3⟩ := heap_setCells b T cells.toList o w old hb
  refine ⟨g1, g2, g3, g4, ?_, g5⟩
  rw [k1]
  congr 2
  apply Array.ext_getElem?
  intro j
  rw [k3 j, hnew, Array.getElem?_append, Array.getElem?_append]
  simp only [Array.size_append, Array.size_extract, Array.length_toList, Nat.min_eq_left (show o ≤ old.size by omega), Nat.sub_zero, Array.getElem?_extract, Nat.min_self, Array.getElem?_toList]
  by_cases ha : j < o
  · rw [if_neg (by omega), if_pos (by omega), if_pos ha, if_pos (by omega)]; simp
  · by_cases hc : j < o + cells.size
    · rw [if_pos (by omega), if_pos hc, if_neg ha]
    · rw [if_neg (by omega), if_neg hc]
      by_cases hd : j < old.size
      · rw [if_pos (by omega)]; congr 1; omega
      · rw [if_neg (by omega), Array.getElem?_eq_none (by omega)]
/-- A store of a whole value at the place o of a block: the block holds new then. -/
theorem wpList_put_at (hgd : op.guard = none) (ty : TypeId) (x y : Operand) (ho : op.op = .store ty x y) (b o : Nat) (T : TypeId) (old cells new : Array Value)
    (hx : a.eval x = .pointer (some ⟨b, o, none⟩)) (hy : a.eval y = .agg cells) (hb : w.heap[b]? = some (.cells old T (0, 0))) (hs : o + cells.size ≤ old.size) (hi : (P.info? ty).map (·.size) = some cells.size) (h1 : cells.all (·.oneCell') = true)
    (hnew : new = old.extract 0 o ++ cells ++ old.extract (o + cells.size) old.size)
    (h : ∀ w', Put b (.cells new T (0, 0)) w w' → wpList P ops Q rest (a.put op.dst undef) w') : wpList P ops Q (op :: rest) a w :=
  wpList_plain hgd fun _ hK => wp_put_at ty x y ho b o T old cells new hx hy hb hs hi h1 hnew fun w' hp => hK _ _ (h w' hp)
/-- A store of a whole value into a block of its own. -/
theorem wpList_put (hgd : op.guard = none) (ty : TypeId) (x y : Operand) (ho : op.op = .store ty x y) (b : Nat) (T : TypeId) (old cells : Array Value)
    (hx : a.eval x = .pointer (some ⟨b, 0, none⟩)) (hy : a.eval y = .agg cells) (hb : w.heap[b]? = some (.cells old T (0, 0))) (hs : old.size = cells.size) (hi : (P.info? ty).map (·.size) = some cells.size) (h1 : cells.all (·.oneCell') = true)
    (h : ∀ w', Put b (.cells cells T (0, 0)) w w' → wpList P ops Q rest (a.put op.dst undef) w') : wpList P ops Q (op :: rest) a w :=
  wpList_put_at hgd ty x y ho b 0 T old cells cells hx hy hb (by omega) hi h1 (by
    rw [show old.extract (0 + cells.size) old.size = #[] from Array.extract_empty_of_stop_le_start (by omega), show old.extract 0 0 = #[] from Array.extract_empty_of_stop_le_start (by omega)]; simp) h
end

theorem wp_put {P : Program} {op : Oper} {a : Act} {w : World} {Q : Exit → Act → World → Prop} {K : Act → World → Prop} (ty : TypeId) (x y : Operand) (ho : op.op = .store ty x y) (b : Nat) (T : TypeId) (old cells : Array Value)
    (hx : a.eval x = .pointer (some ⟨b, 0, none⟩)) (hy : a.eval y = .agg cells) (hb : w.heap[b]? = some (.cells old T (0, 0))) (hs : old.size = cells.size) (hi : (P.info? ty).map (·.size) = some cells.size) (h1 : cells.all (·.oneCell') = true)
    (h : ∀ w', Put b (.cells cells T (0, 0)) w w' → K (a.put op.dst undef) w') : op.wp P a w K Q :=
  wp_put_at ty x y ho b 0 T old cells cells hx hy hb (by omega) hi h1 (by
    rw [show old.extract (0 + cells.size) old.size = #[] from Array.extract_empty_of_stop_le_start (by omega), show old.extract 0 0 = #[] from Array.extract_empty_of_stop_le_start (by omega)]; simp) h

theorem Put.below {B b : Nat} {o : Obj} {a w w' : World} (h : Put b o w w') (hA : Below B a w) (hb : B ≤ b) : Below B a w' :=
  ⟨h.os.trans hA.os, h.tape.trans hA.tape, h.output.trans hA.output, by rw [h.size]; exact hA.size, fun k hk => (h.rest k (by omega)).trans (hA.block k hk)⟩
end Go.Proofs.YtgkjhnghibpeoaaDoor
namespace Go.Proofs.YtgkjhnghibpeoaaDoor
open Go.RowKit Go.Shelf
theorem cell_of_same {w w' : World} {k : Nat} (h : w'.heap[k]? = w.heap[k]?) (i : Nat) : w'.cell? ⟨k, i, none⟩ = w.cell? ⟨k, i, none⟩ := by simp [World.cell?, h]
attribute [local go_sem] Oper.semAt_some

/-- The slice's own two blocks are as they were. -/
def KeepsS (Bs len : Nat) (ao : Option Addr) (W W' : World) : Prop := W'.heap[Bs]? = W.heap[Bs]? ∧ ∀ a, 0 < len → ao = some a → W'.heap[a.block]? = W.heap[a.block]?
theorem KeepsS.trans {Bs len : Nat} {ao : Option Addr} {A B C : World} (h : KeepsS Bs len ao A B) (k : KeepsS Bs len ao B C) : KeepsS Bs len ao A C := ⟨k.1.trans h.1, fun a l e => (k.2 a l e).trans (h.2 a l e)⟩
theorem KeepsS.refl (Bs len : Nat) (ao : Option Addr) (A : World) : KeepsS Bs len ao A A := ⟨rfl, fun _ _ _ => rfl⟩
/-- What the k-th round is told. -/
def backV (zs : List In) (len k : Nat) : Array Value := #[.int .i64 ((len - 1 - k : Nat) : Int), (zs[len - 1 - k]?.getD noI).val]

set_option maxRecDepth 100000 in
set_option maxHeartbeats 4000000 in
theorem back1_in (n : Nat) (hn : 1 ≤ n) (l Bs len cap : Nat) (ao : Option Addr) (zs : List In) (hlen : len ≤ 2000000) (J : Nat → World → Prop)
    (hY : ∀ k W, J k W → k < len → YieldAt Fence.wide (n - 1) Tryd.prog l (backV zs len k) W fun e W' => e = .returned (.bool true) ∧ J (k + 1) W' ∧ KeepsS Bs len ao W W')
    (W : World) (hBs : W.cell? ⟨Bs, 0, none⟩ = some (.slice ao len cap)) (hc : ∀ j, j < len → ∃ b off, ao = some ⟨b, off, none⟩ ∧ ∀ q v, (zs[j]?.getD noI).cells[q]? = some v → W.cell? ⟨b, off + j * 6 + q, none⟩ = some v) (h0 : J 0 W) :
    CallsIn Fence.wide n Tryd.prog 45 #[.func (.yield l) #[] #[], .pointer (some ⟨Bs, 0, none⟩)] W fun e W' => (∃ v, e = .returned v) ∧ J len W' := by
  refine callsIn_of_wp Tryd.func45 rfl trivial ?_ rfl
  simp only [Tryd.ntmps45, List.size_toArray, List.length_cons, List.length_nil, Nat.reduceAdd, Nat.reduceSub, Array.replicate_succ, Array.replicate_zero, List.push_toArray, List.append_toArray, List.nil_append, List.cons_append]
  have HC := Lib.hid hc
  clear hc
  gi_wp2
  gi_loopw [3] (fun i wr => ∃ r : Nat, r ≤ len ∧ i = .int .i64 ((r : Int) - 1) ∧ J (len - r) wr ∧ KeepsS Bs len ao W wr) (fun i _ => (intOf i + 1).toNat)
  case atStart => exact ⟨len, Nat.le_refl _, rfl, by rw [Nat.sub_self]; exact h0, KeepsS.refl _ _ _ _⟩
  case round =>
    obtain ⟨r, hr, rfl, hJs, hkp⟩ := hrel
    have hbs := (cell_of_same hkp.1 0).trans hBs
    rcases r with _ | q
    · gi_wp2
      go_end0
      exact ⟨⟨_, rfl⟩, hJs⟩
    · obtain ⟨b, off, hao, hcq⟩ := HC.out q (by omega)
      subst hao
      have hcz := fun (u : Nat) (v : Value) (h : (zs[q]?.getD noI).cells[u]? = some v) => (cell_of_same (hkp.2 _ (by omega) rfl) (off + q * 6 + u)).trans (hcq u v h)
      generalize hii : zs[q]?.getD noI = ii at hcz
      have i0 := hcz 0 _ rfl
      have i1 := hcz 1 _ rfl
      have i2 := hcz 2 _ rfl
      have i3 := hcz 3 _ rfl
      have i4 := hcz 4 _ rfl
      have i5 := hcz 5 _ rfl
      rw [Nat.add_zero] at i0
      rw [show ((q + 1 : Nat) : Int) - 1 = (q : Int) by omega]
      have hy := hY _ wr hJs (by omega)
      rw [backV, show len - 1 - (len - (q + 1)) = q by omega, show len - (q + 1) + 1 = len - q by omega, hii, In.val] at hy
      obtain ⟨fn, tmps, assign, body, hy, hR⟩ := hy
      clear hcq hBs hcz
      gi_wp2
      refine hR.mono ?_
      rintro e W3 ⟨rfl, hJ3, hk3⟩
      have HJ3 := Lib.hid hJ3
      clear hJ3
      gi_wp2
      go_roundw
      case rel => exact ⟨q, by omega, rfl, HJ3.out, hkp.trans hk3⟩
      case measure => simp [intOf]

set_option maxHeartbeats 1000000 in
theorem back_any (ao : Option Addr) (len cap : Nat) (w : World) : Calls Tryd.prog 39 #[.slice ao len cap] w fun e w' => e = .returned (.func (.func 45) #[] #[.pointer (some ⟨w.heap.size, 0, none⟩)]) ∧ w' = w.alloc (.cells #[.slice ao len cap] 33) := by
  have hmf : ∀ (fn : Go.Fn) (first cap : Array Value) (w : World), (Instr.makeFunc fn first cap).run Tryd.prog w = .ok (.func fn first cap) w := fun _ _ _ _ => rfl
  go_enter Tryd.func39, Tryd.ntmps39
  go_wp2_with fail
  go_ret
  exact ⟨rfl, rfl⟩
end Go.Proofs.YtgkjhnghibpeoaaDoor
