/- Whole values stored in blocks: the world behind such a store by what is known of it. -/
import Derived.Test.YtijciojipcgiaaaRows
import Derived.WalkKit
import Derived.WalkSpells
import Derived.WalkLawsBesides
import Derived.Deep.MidRow
import Derived.Deep.WholeRow
import Derived.Laws.Rows
import Derived.Lib.Hide
import Derived.Test.YtijciojipcgiaaaIrIn
import Derived.Test.YtijciojipcgiaaaIrSizes
import Derived.Laws.MakeOwn
import Derived.Laws.CopyRow
import Derived.Laws.OwnMore
import Derived.Lib.SmallJoins
import Derived.LoopTactic
import Derived.LoopN
import Derived.Deep.LoopGhost
namespace Go.Proofs.Ytijciojipcgiaaa
open Go.RowKit

/-- The world w', where block b holds this, and all else is as it was in w. -/
structure Put (b : Nat) (o : Obj) (w w' : World) : Prop where
  os : w'.os = w.os
  tape : w'.tape = w.tape
  output : w'.output = w.output
  size : w'.heap.size = w.heap.size
  at_b : w'.heap[b]? = some o
  rest : ∀ k, k ≠ b → w'.heap[k]? = w.heap[k]?

theorem heap_setCells (b : Nat) (T : TypeId) : ∀ (vs : List Value) (o : Nat) (w : World) (old : Array Value), w.heap[b]? = some (.cells old T (0, 0)) →
    ∃ new, (w.setCells b o vs).heap[b]? = some (.cells new T (0, 0)) ∧ new.size = old.size ∧ ∀ j, new[j]? = if o ≤ j ∧ j < o + vs.length ∧ j < old.size then vs[j - o]? else old[j]?
  | [], o, w, old, h => ⟨old, h, rfl, fun j => by rw [if_neg (by simp; omega)]⟩
  | v :: r, o, w, old, h => by
    have h1 : (w.setCell ⟨b, o, none⟩ v).heap[b]? = some (.cells (old.setIfInBounds o v) T (0, 0)) := by
      simp [World.setCell, Array.getElem?_modify, h]
    obtain ⟨new, h2, h3, h4⟩ := heap_setCells b T r (o + 1) _ _ h1
    refine ⟨new, h2, by simpa using h3, fun j => ?_⟩
    rw [h4 j]
    simp only [List.length_cons, Array.size_setIfInBounds]
    by_cases hj : o + 1 ≤ j ∧ j < o + 1 + r.length ∧ j < old.size
    · rw [if_pos hj, if_pos (by omega), show j - o = (j - (o + 1)) + 1 by omega, List.getElem?_cons_succ]
    · rw [if_neg hj, Array.getElem?_setIfInBounds]
      by_cases hjo : o = j
      · subst hjo
        by_cases hl : o < old.size
        · rw [if_pos rfl, if_pos hl, if_pos (by omega)]; simp
        · rw [if_pos rfl, if_neg hl, if_neg (by omega), Array.getElem?_eq_none (by omega)]
      · rw [if_neg hjo, if_neg (by omega)]
theorem setCells_rest (b : Nat) : ∀ (vs : List Value) (o : Nat) (w : World), (w.setCells b o vs).os = w.os ∧ (w.setCells b o vs).tape = w.tape ∧ (w.setCells b o vs).output = w.output ∧ (w.setCells b o vs).heap.size = w.heap.size ∧ ∀ k, k ≠ b → (w.setCells b o vs).heap[k]? = w.heap[k]?
  | [], _, _ => ⟨rfl, rfl, rfl, rfl, fun _ _ => rfl⟩
  | v :: r, o, w => by
    obtain ⟨h1, h2, h3, h4, h5⟩ := setCells_rest b r (o + 1) (w.setCell ⟨b, o, none⟩ v)
    exact ⟨h1, h2, h3, by rw [show (w.setCells b o (v :: r)) = (w.setCell ⟨b, o, none⟩ v).setCells b (o + 1) r from rfl, h4]; simp [World.setCell], fun k hk => (h5 k hk).trans (Below.heap_setCell _ _ _ _ (by simpa using hk))⟩
theorem there_of {w : World} {b o n : Nat} {T : TypeId} {old : Array Value} (h : w.heap[b]? = some (.cells old T (0, 0))) (hn : o + n ≤ old.size) : w.there b o n := fun j hj => by
  rw [Lib.cell_of_heap h]
  exact ⟨by rw [Array.getElem?_eq_getElem (by omega)]; rfl, Lib.frozen_of_heap h _⟩

section
variable {P : Program} {ops : Array Oper} {rest : List Oper} {op : Oper} {a : Act} {w : World} {Q : Exit → Act → World → Prop}
/-- A store of a whole value at the place o of a block: the block holds new then. -/
theorem wp_put_at {K : Act → World → Prop} (ty : TypeId) (x y : Operand) (ho : op.op = .store ty x y) (b o : Nat) (T : TypeId) (old cells new : Array Value)
    (hx : a.eval x = .pointer (some ⟨b, o, none⟩)) (hy : a.eval y = .agg cells) (hb : w.heap[b]? = some (.cells old T (0, 0))) (hs : o + cells.size ≤ old.size) (hi : (P.info? ty).map (·.size) = some cells.size) (h1 : cells.all (·.oneCell') = true)
    (hnew : new = old.extract 0 o ++ cells ++ old.extract (o + cells.size) old.size)
    (h : ∀ w', Put b (.cells new T (0, 0)) w w' → K (a.put op.dst undef) w') : op.wp P a w K Q := by
  refine wp_store_mid ty x y ho b o cells hx hy (there_of hb hs) hi h1 (h _ ?_)
  obtain ⟨g1, g2, g3, g4, g5⟩ := setCells_rest b cells.toList o w
  obtain ⟨n2, k1, k2, k3⟩ := heap_setCells b T cells.toList o w old hb
  refine ⟨g1, g2, g3, g4, ?_, g5⟩
  rw [k1]
  congr 2
  apply Array.ext_getElem?
  intro j
  rw [k3 j, hnew, Array.getElem?_append, Array.getElem?_append]
  simp only [Array.size_append, Array.size_extract, Array.length_toList, Nat.min_eq_left (show o ≤ old.size by omega), Nat.sub_zero, Array.getElem?_extract, Nat.min_self, Array.getElem?_toList]
  by_cases ha : j < o
  · rw [if_neg (by omega), if_pos (by omega), if_pos ha, if_pos (by omega)]; simp
  · by_cases hc : j < o + cells.size
    · rw [if_pos (by omega), if_pos hc, if_neg ha]
    · rw [if_neg (by omega), if_neg hc]
      by_cases hd : j < old.size
      · rw [if_pos (by omega)]; congr 1; omega
      · rw [if_neg (by omega), Array.getElem?_eq_none (by omega)]
/-- A store of a whole value at the place o of a block: the block holds new then. -/
theorem wpList_put_at (hgd : op.guard = none) (ty : TypeId) (x y : Operand) (ho : op.op = .store ty x y) (b o : Nat) (T : TypeId) (old cells new : Array Value)
    (hx : a.eval x = .pointer (some ⟨b, o, none⟩)) (hy : a.eval y = .agg cells) (hb : w.heap[b]? = some (.cells old T (0, 0))) (hs : o + cells.size ≤ old.size) (hi : (P.info? ty).map (·.size) = some cells.size) (h1 : cells.all (·.oneCell') = true)
    (hnew : new = old.extract 0 o ++ cells ++ old.extract (o + cells.size) old.size)
    (h : ∀ w', Put b (.cells new T (0, 0)) w w' → wpList P ops Q rest (a.put op.dst undef) w') : wpList P ops Q (op :: rest) a w :=
  wpList_plain hgd fun _ hK => wp_put_at ty x y ho b o T old cells new hx hy hb hs hi h1 hnew fun w' hp => hK _ _ (h w' hp)
/-- A store of a whole value into a block of its own. -/
theorem wpList_put (hgd : op.guard = none) (ty : TypeId) (x y : Operand) (ho : op.op = .store ty x y) (b : Nat) (T : TypeId) (old cells : Array Value)
    (hx : a.eval x = .pointer (some ⟨b, 0, none⟩)) (hy : a.eval y = .agg cells) (hb : w.heap[b]? = some (.cells old T (0, 0))) (hs : old.size = cells.size) (hi : (P.info? ty).map (·.size) = some cells.size) (h1 : cells.all (·.oneCell') = true)
    (h : ∀ w', Put b (.cells cells T (0, 0)) w w' → wpList P ops Q rest (a.put op.dst undef) w') : wpList P ops Q (op :: rest) a w :=
  wpList_put_at hgd ty x y ho b 0 T old cells cells hx hy hb (by omega) hi h1 (by
    rw [show old.extract (0 + cells.size) old.size = #[] from Array.extract_empty_of_stop_le_start (by omega), show old.extract 0 0 = #[] from Array.extract_empty_of_stop_le_start (by omega)]; simp) h
end

theorem wp_put {P : Program} {op : Oper} {a : Act} {w : World} {Q : Exit → Act → World → Prop} {K : Act → World → Prop} (ty : TypeId) (x y : Operand) (ho : op.op = .store ty x y) (b : Nat) (T : TypeId) (old cells : Array Value)
    (hx : a.eval x = .pointer (some ⟨b, 0, none⟩)) (hy : a.eval y = .agg cells) (hb : w.heap[b]? = some (.cells old T (0, 0))) (hs : old.size = cells.size) (hi : (P.info? ty).map (·.size) = some cells.size) (h1 : cells.all (·.oneCell') = true)
    (h : ∀ w', Put b (.cells cells T (0, 0)) w w' → K (a.put op.dst undef) w') : op.wp P a w K Q :=
  wp_put_at ty x y ho b 0 T old cells cells hx hy hb (by omega) hi h1 (by
    rw [show old.extract (0 + cells.size) old.size = #[] from Array.extract_empty_of_stop_le_start (by omega), show old.extract 0 0 = #[] from Array.extract_empty_of_stop_le_start (by omega)]; simp) h

theorem Put.below {B b : Nat} {o : Obj} {a w w' : World} (h : Put b o w w') (hA : Below B a w) (hb : B ≤ b) : Below B a w' :=
  ⟨h.os.trans hA.os, h.tape.trans hA.tape, h.output.trans hA.output, by rw [h.size]; exact hA.size, fun k hk => (h.rest k (by omega)).trans (hA.block k hk)⟩
end Go.Proofs.Ytijciojipcgiaaa
namespace Go.Proofs.Ytijciojipcgiaaa
open Go.RowKit

/-- It hangs on the blocks from lo on alone. -/
def NewW (lo : Nat) (w : World) (Q : World → Prop) : Prop := ∀ v : World, (∀ g, lo ≤ g → g < w.heap.size → v.heap[g]? = w.heap[g]?) → Q v
theorem NewW.here {lo : Nat} {w : World} {Q : World → Prop} (h : NewW lo w Q) : Q w := h w fun _ _ _ => rfl
theorem NewW.mono {lo : Nat} {w : World} {Q R : World → Prop} (h : NewW lo w Q) (k : ∀ v, Q v → R v) : NewW lo w R := fun v hv => k v (h v hv)
theorem NewW.step {lo lo' : Nat} {w w' : World} {Q : World → Prop} (h : NewW lo w Q) (hlo : lo' ≤ lo) (hs : w.heap.size ≤ w'.heap.size) (hk : ∀ g, lo ≤ g → g < w.heap.size → w'.heap[g]? = w.heap[g]?) : NewW lo' w' Q :=
  fun v hv => h v fun g h1 h2 => (hv g (by omega) (by omega)).trans (hk g h1 h2)

/-- The blocks from lo on that there were are as they were. -/
def Kept (lo : Nat) (w w' : World) : Prop := w.heap.size ≤ w'.heap.size ∧ ∀ g, lo ≤ g → g < w.heap.size → w'.heap[g]? = w.heap[g]?
theorem Kept.refl (lo : Nat) (w : World) : Kept lo w w := ⟨Nat.le_refl _, fun _ _ _ => rfl⟩
theorem Kept.trans {lo : Nat} {a b c : World} (h : Kept lo a b) (k : Kept lo b c) : Kept lo a c := ⟨Nat.le_trans h.1 k.1, fun g h1 h2 => (k.2 g h1 (Nat.lt_of_lt_of_le h2 h.1)).trans (h.2 g h1 h2)⟩
theorem Kept.of_below {lo : Nat} {w w' : World} (h : Below w.heap.size w w') : Kept lo w w' := ⟨h.size, fun g _ h2 => h.block g h2⟩
theorem Kept.of_put {lo b : Nat} {o : Obj} {w w' : World} (h : Put b o w w') (hb : b < lo) : Kept lo w w' := ⟨by rw [h.size]; exact Nat.le_refl _, fun g h1 _ => h.rest g (by omega)⟩
theorem Kept.of_set {lo b o : Nat} {v : Value} {w : World} (hb : b < lo) : Kept lo w (w.setCell ⟨b, o, none⟩ v) := ⟨by simp [World.setCell], fun g h1 _ => Below.heap_setCell _ _ _ _ (by show g ≠ b; omega)⟩
theorem NewW.kept {lo : Nat} {w w' : World} {Q : World → Prop} (h : NewW lo w Q) (k : Kept lo w w') : NewW lo w' Q := h.step (Nat.le_refl _) k.1 k.2
/-- A cell is written over. -/
theorem put_cell {w : World} {b o : Nat} {v : Value} {T : TypeId} {old : Array Value} (h : w.heap[b]? = some (.cells old T (0, 0))) : Put b (.cells (old.setIfInBounds o v) T (0, 0)) w (w.setCell ⟨b, o, none⟩ v) :=
  ⟨rfl, rfl, rfl, by simp [World.setCell], by simp [World.setCell, Array.getElem?_modify, h], fun k hk => Below.heap_setCell _ _ _ _ (by simpa using hk)⟩
/-- The first k of N things are copied into block b. -/
structure TwS {α : Type} (cells : α → List Value) (E : TypeId) (kc : Nat) (In : World → Nat → α → Prop) (b N k : Nat) (w wr : World) (l' : List α) (R : Array Value) (rest : List Value) : Prop where
  len : l'.length = k
  below : Below b w wr
  lt : b < wr.heap.size
  row : wr.heap[b]? = some (.cells R E (0, 0))
  list : R.toList = l'.flatMap cells ++ rest
  rest : rest.length = (N + 2 - k) * kc
  new : ∀ a ∈ l', NewW (b + 1) wr fun v => In v wr.heap.size a
theorem flat_len {α : Type} {cells : α → List Value} {kc : Nat} (hc : ∀ a, (cells a).length = kc) : ∀ l : List α, (l.flatMap cells).length = l.length * kc
  | [] => by simp
  | a :: r => by rw [List.flatMap_cons, List.length_append, hc, flat_len hc r, List.length_cons, Nat.succ_mul]; omega
/-- A row whose middle is written over. -/
theorem row_over (A : Array Value) (P M : List Value) (c : Array Value) (kc : Nat) (h : A.toList = P ++ M) (hc : c.size = kc) (hM : kc ≤ M.length) :
    (A.extract 0 P.length ++ c ++ A.extract (P.length + c.size) A.size).toList = P ++ c.toList ++ M.drop kc := by
  rw [Array.toList_append, Array.toList_append, Array.toList_extract, Array.toList_extract]
  have e1 : A.toList.extract 0 P.length = P := by
    rw [h]; simp [List.extract]
  have e2 : A.toList.extract (P.length + c.size) A.size = M.drop kc := by
    rw [h, hc]
    have : A.size = P.length + M.length := by rw [← Array.length_toList, h, List.length_append]
    rw [this]
    simp only [List.extract]
    rw [List.drop_append]
    simp only [show P.length + kc - P.length = kc by omega, List.drop_eq_nil_of_le (show P.length ≤ P.length + kc by omega), List.nil_append]
    rw [List.take_of_length_le (by rw [List.length_drop]; omega)]
  rw [e1, e2]
section
variable {α : Type} {cells : α → List Value} {E : TypeId} {kc : Nat} {In : World → Nat → α → Prop} {b N k : Nat} {w wr : World} {l' : List α} {R : Array Value} {rest : List Value}
theorem TwS.rsize (h : TwS cells E kc In b N k w wr l' R rest) (hc : ∀ a, (cells a).length = kc) (hk : k ≤ N + 2) : R.size = (N + 2) * kc := by
  rw [← Array.length_toList, h.list, List.length_append, flat_len hc, h.len, h.rest, ← Nat.add_mul]
  congr 1; omega
/-- One more. -/
theorem TwS.step (h : TwS cells E kc In b N k w wr l' R rest) (hc : ∀ a, (cells a).length = kc) (hup : ∀ v B B' a, B ≤ B' → In v B a → In v B' a) (hk : k < N) {w1 w2 : World} {a : α} {new : Array Value}
    (hb1 : Below wr.heap.size wr w1) (ha : NewW wr.heap.size w1 fun v => In v w1.heap.size a)
    (hnew : new = R.extract 0 (k * kc) ++ (cells a).toArray ++ R.extract (k * kc + (cells a).toArray.size) R.size) (hp : Put b (.cells new E (0, 0)) w1 w2) :
    ∃ rest', TwS cells E kc In b N (k + 1) w w2 (l' ++ [a]) new rest' := by
  have hs1 := hb1.size
  have hlt := h.lt
  refine ⟨rest.drop kc, ⟨by rw [List.length_append, h.len]; rfl, hp.below (h.below.trans (hb1.mono (by omega))) (Nat.le_refl _), by rw [hp.size]; omega, hp.at_b, ?_, ?_, fun x hx => ?_⟩⟩
  · have e : k * kc = (l'.flatMap cells).length := by rw [flat_len hc, h.len]
    rw [hnew, e, row_over R (l'.flatMap cells) rest (cells a).toArray kc h.list (by simp [hc]) (by rw [h.rest]; exact Nat.le_trans (by omega) (Nat.mul_le_mul_right kc (show 1 ≤ N + 2 - k by omega)))]
    simp
  · rw [List.length_drop, h.rest, show N + 2 - k = (N + 2 - (k + 1)) + 1 by omega, Nat.succ_mul]; omega
  · rcases List.mem_append.1 hx with hx | hx
    · have hn := h.new x hx
      refine (hn.mono fun v hv => hup v wr.heap.size w2.heap.size x (by rw [hp.size]; omega) hv).step (Nat.le_refl _) (by rw [hp.size]; omega) fun g h1 h2 => ?_
      rw [hp.rest g (by omega), hb1.block g h2]
    · obtain rfl : x = a := by simpa using hx
      refine (ha.mono fun v hv => hup v w1.heap.size w2.heap.size x (by rw [hp.size]; omega) hv).step (by omega) (by rw [hp.size]; omega) fun g h1 h2 => ?_
      rw [hp.rest g (by omega)]
/-- All N things are copied, and so many marks stand behind: the row is written on behind them. -/
structure TwM {α : Type} (cells : α → List Value) (E : TypeId) (kc : Nat) (In : World → Nat → α → Prop) (b N : Nat) (w wr : World) (l' : List α) (R : Array Value) (marks rest : List Value) (m : Nat) : Prop where
  len : l'.length = N
  below : Below b w wr
  lt : b < wr.heap.size
  row : wr.heap[b]? = some (.cells R E (0, 0))
  list : R.toList = l'.flatMap cells ++ marks ++ rest
  mlen : marks.length = m * kc
  rest : rest.length = (2 - m) * kc
  new : ∀ a ∈ l', NewW (b + 1) wr fun v => In v wr.heap.size a
theorem TwS.marks (h : TwS cells E kc In b N N w wr l' R rest) : TwM cells E kc In b N w wr l' R [] rest 0 :=
  ⟨h.len, h.below, h.lt, h.row, by rw [h.list]; simp, by simp, by rw [h.rest]; congr 1; omega, h.new⟩
theorem TwM.rsize {marks : List Value} {m : Nat} (h : TwM cells E kc In b N w wr l' R marks rest m) (hc : ∀ a, (cells a).length = kc) (hm : m ≤ 2) : R.size = (N + 2) * kc := by
  rw [← Array.length_toList, h.list, List.length_append, List.length_append, flat_len hc, h.len, h.mlen, h.rest, ← Nat.add_mul, ← Nat.add_mul]
  congr 1; omega
theorem TwM.step {marks : List Value} {m : Nat} (h : TwM cells E kc In b N w wr l' R marks rest m) (hc : ∀ a, (cells a).length = kc) (hup : ∀ v B B' a, B ≤ B' → In v B a → In v B' a) (hm : m < 2) {w1 w2 : World} {mk : List Value} {new : Array Value} (hmk : mk.length = kc)
    (hb1 : Below wr.heap.size wr w1)
    (hnew : new = R.extract 0 ((N + m) * kc) ++ mk.toArray ++ R.extract ((N + m) * kc + mk.toArray.size) R.size) (hp : Put b (.cells new E (0, 0)) w1 w2) :
    TwM cells E kc In b N w w2 l' new (marks ++ mk) (rest.drop kc) (m + 1) := by
  have hs1 := hb1.size
  have hlt := h.lt
  refine ⟨h.len, hp.below (h.below.trans (hb1.mono (by omega))) (Nat.le_refl _), by rw [hp.size]; omega, hp.at_b, ?_, ?_, ?_, fun x hx => ?_⟩
  · have e : (N + m) * kc = (l'.flatMap cells ++ marks).length := by rw [List.length_append, flat_len hc, h.len, h.mlen, Nat.add_mul]
    rw [hnew, e, row_over R (l'.flatMap cells ++ marks) rest mk.toArray kc h.list (by simp [hmk]) (by rw [h.rest]; exact Nat.le_trans (by omega) (Nat.mul_le_mul_right kc (show 1 ≤ 2 - m by omega)))]
    simp
  · rw [List.length_append, h.mlen, hmk, Nat.succ_mul]
  · rw [List.length_drop, h.rest, show 2 - m = (2 - (m + 1)) + 1 by omega, Nat.succ_mul]; omega
  · refine ((h.new x hx).mono fun v hv => hup v wr.heap.size w2.heap.size x (by rw [hp.size]; omega) hv).step (Nat.le_refl _) (by rw [hp.size]; omega) fun g h1 h2 => ?_
    rw [hp.rest g (by omega), hb1.block g h2]
end
/-- What a copy of a list of N things answers. -/
structure TwL {α : Type} (cells : α → List Value) (E : TypeId) (kc : Nat) (In : World → Nat → α → Prop) (N : Nat) (mk : Nat → List Value → Prop) (w w' : World) (v : Value) (l' : List α) (R : Array Value) (t1 t2 : List Value) : Prop where
  val : v = .slice (some ⟨w.heap.size, 0, none⟩) N (N + 2)
  len : l'.length = N
  below : Below w.heap.size w w'
  lt : w.heap.size < w'.heap.size
  row : w'.heap[w.heap.size]? = some (.cells R E (0, 0))
  list : R.toList = l'.flatMap cells ++ (t1 ++ t2)
  l1 : t1.length = kc
  l2 : t2.length = kc
  m1 : mk N t1
  m2 : mk (N + 1) t2
  new : ∀ a ∈ l', NewW (w.heap.size + 1) w' fun v => In v w'.heap.size a
def TwE {α : Type} (cells : α → List Value) (E : TypeId) (kc : Nat) (In : World → Nat → α → Prop) (N : Nat) (mk : Nat → List Value → Prop) (P : List α → Prop) (w : World) (e : Ending) (w' : World) : Prop :=
  ∃ v l' R t1 t2, e = .returned v ∧ P l' ∧ TwL cells E kc In N mk w w' v l' R t1 t2
theorem TwM.done {α : Type} {cells : α → List Value} {E : TypeId} {kc : Nat} {In : World → Nat → α → Prop} {N : Nat} {mk : Nat → List Value → Prop} {w wr : World} {l' : List α} {R : Array Value} {t1 t2 rest : List Value}
    (h : TwM cells E kc In w.heap.size N w wr l' R ([] ++ t1 ++ t2) rest 2) (h1 : t1.length = kc) (h2 : t2.length = kc) (m1 : mk N t1) (m2 : mk (N + 1) t2) : TwL cells E kc In N mk w wr (.slice (some ⟨w.heap.size, 0, none⟩) N (N + 2)) l' R t1 t2 :=
  ⟨rfl, h.len, h.below, h.lt, h.row, by
    have hr : rest = [] := List.eq_nil_of_length_eq_zero (by rw [h.rest]; omega)
    rw [h.list, hr]; simp, h1, h2, m1, m2, h.new⟩
section
variable {α : Type} {cells : α → List Value} {E : TypeId} {kc : Nat} {In : World → Nat → α → Prop} {N : Nat} {mk : Nat → List Value → Prop} {w w' : World} {v : Value} {l' : List α} {R : Array Value} {t1 t2 : List Value}
theorem flat_at (hc : ∀ a, (cells a).length = kc) : ∀ (l : List α) (T : List Value) (i : Nat) (x : α), l[i]? = some x → ∀ j u, (cells x)[j]? = some u → (l.flatMap cells ++ T)[i * kc + j]? = some u
  | [], _, i, x, h, _, _, _ => by cases h
  | a :: r, T, i, x, h, j, u, hu => by
    rw [List.flatMap_cons, List.append_assoc]
    have hj : j < kc := by rw [← hc x]; exact (List.getElem?_eq_some_iff.1 hu).1
    cases i with
    | zero =>
      obtain rfl : a = x := by simpa using h
      rw [Nat.zero_mul, Nat.zero_add, List.getElem?_append_left (by rw [hc]; exact hj)]
      exact hu
    | succ i =>
      rw [List.getElem?_append_right (by rw [hc, Nat.succ_mul]; omega), hc, show (i + 1) * kc + j - kc = i * kc + j by rw [Nat.succ_mul]; omega]
      exact flat_at hc r T i x (by simpa using h) j u hu
/-- It lies in the world, wherever the new blocks are as they were. -/
theorem TwL.lies (h : TwL cells E kc In N mk w w' v l' R t1 t2) (hc : ∀ a, (cells a).length = kc) (hN : N ≤ 140737488351232) : NewW w.heap.size w' fun u => LiesG cells kc u w'.heap.size v l' := by
  intro u hu
  refine ⟨some ⟨w.heap.size, 0, none⟩, N + 2, by rw [h.val, h.len], by rw [h.len]; exact hN, .inr ⟨w.heap.size, 0, rfl, h.lt, fun i x hx j q hq => ?_⟩⟩
  have hr : u.heap[w.heap.size]? = some (.cells R E (0, 0)) := (hu _ (Nat.le_refl _) h.lt).trans h.row
  rw [Lib.cell_of_heap hr, Nat.zero_add]
  rw [← Array.getElem?_toList, h.list]
  exact flat_at hc l' (t1 ++ t2) i x hx j q hq
theorem TwL.all (h : TwL cells E kc In N mk w w' v l' R t1 t2) : ∀ a ∈ l', NewW w.heap.size w' fun u => In u w'.heap.size a :=
  fun a ha => (h.new a ha).step (by omega) (Nat.le_refl _) fun _ _ _ => rfl
end
end Go.Proofs.Ytijciojipcgiaaa
namespace Go.Proofs.Ytijciojipcgiaaa
open Go.RowKit Go.Joins
set_option maxRecDepth 100000
attribute [local go_sem ↓] bld_eq bls_eq
theorem heap_lt' {w : World} {k : Nat} {o : Obj} (h : w.heap[k]? = some o) : k < w.heap.size := (Array.getElem?_eq_some_iff.1 h).1
theorem kcells_len (a : In) : (In.cells a).length = 6 := rfl
theorem bcells_len (a : Bool) : (Bcells a).length = 1 := rfl
def markIns (n : Nat) : List Value := [.int .u8 99, .int .u8 0, .int .i64 (-1000 - (n : Int)), .int .i64 0, .int .i64 0, .int .i64 0]
theorem markIns_len (n : Nat) : (markIns n).length = 6 := rfl
theorem markIns_one (n : Nat) : (markIns n).toArray.all (·.oneCell') = true := by simp [markIns, Value.oneCell']
def mkI (n : Nat) (t : List Value) : Prop := t = markIns n
def InI (_ : World) (_ : Nat) (i : In) : Prop := InOk i
theorem twiI : (Try.prog.info? 53).map (fun i => (i.zero, i.size, i.bytes)) = some (some (.agg #[.int .u8 0, .int .u8 0, .int .i64 0, .int .i64 0, .int .i64 0, .int .i64 0]), 6, 40) := by kernel_rfl
theorem twiB : (Try.prog.info? 4).map (fun i => (i.zero, i.size, i.bytes)) = some (some (.bool false), 1, 1) := by kernel_rfl
set_option maxHeartbeats 4000000 in
theorem markIns_any (n : Nat) (h : n ≤ 1000000) (w : World) : Calls Try.prog 81 #[.int .i64 (n : Int)] w fun e w' => e = .returned (.agg (markIns n).toArray) ∧ Below w.heap.size w w' := by
  have e5 := bld_of 53 #[(0, .int .u8 99), (2, .int .i64 (-1000 - (n : Int)))] (markIns n).toArray (by kernel_rfl)
  have hP := (MapKept.heap_alloc w (.cells #[.int .u8 0, .int .u8 0, .int .i64 0, .int .i64 0, .int .i64 0, .int .i64 0] 53)).1
  have HP := Lib.hid hP
  have HB := Lib.hid (below_box w (.cells #[.int .u8 0, .int .u8 0, .int .i64 0, .int .i64 0, .int .i64 0, .int .i64 0] 53))
  obtain ⟨C, hC⟩ : ∃ C, C = (markIns n).toArray := ⟨_, rfl⟩
  have hCs : C.size = 6 := by rw [hC]; rfl
  have hC1 : C.all (·.oneCell') = true := by rw [hC]; exact markIns_one n
  rw [← hC] at e5 ⊢
  have HC := Lib.hid (And.intro hCs hC1)
  clear hP hC hCs hC1
  go_enter Try.func81, Try.ntmps81
  go_wp2_with (refine wpList_put rfl 53 (Operand.tmp 2) (Operand.tmp 5) rfl w.heap.size 53 _ C rfl rfl HP.out (by rw [HC.out.1]; rfl) (by rw [HC.out.1]; kernel_rfl) HC.out.2 ?_)
  intro w5 hp5
  have HQ := Lib.hid hp5
  clear hp5
  go_wp2_with fail
  refine bodyPost_ret (v := .agg C) (results_cell_row rfl _ _ w.heap.size 53 _ (0, 0) _ rfl HQ.out.at_b Try.underlying53 rfl (by rw [HC.out.1]; kernel_rfl)) rfl ?_
  exact ⟨rfl, HQ.out.below HB.out (Nat.le_refl _)⟩
theorem flat_div {α : Type} {cells : α → List Value} {kc : Nat} (hk : 0 < kc) (hc : ∀ a, (cells a).length = kc) (l : List α) (j : Nat) (u : Value) (h : (l.flatMap cells)[j]? = some u) : ∃ x, l[j / kc]? = some x ∧ (cells x)[j % kc]? = some u := by
  have hj : j < l.length * kc := by rw [← flat_len hc]; exact (List.getElem?_eq_some_iff.1 h).1
  have hi : j / kc < l.length := (Nat.div_lt_iff_lt_mul hk).2 hj
  refine ⟨l[j / kc], List.getElem?_eq_getElem hi, ?_⟩
  have hm : j % kc < (cells l[j / kc]).length := by rw [hc]; exact Nat.mod_lt _ hk
  have h2 := flat_at hc l [] (j / kc) _ (List.getElem?_eq_getElem hi) (j % kc) _ (List.getElem?_eq_getElem hm)
  rw [List.append_nil, Nat.mul_comm, Nat.div_add_mod] at h2
  rw [h] at h2
  rw [List.getElem?_eq_getElem hm, h2]
theorem copy_lies {P : Program} {α : Type} {cells : α → List Value} {kc : Nat} (hk : 0 < kc) (hc : ∀ a, (cells a).length = kc) (hone : ∀ a, ∀ u ∈ cells a, u.oneCell' = true) (T E ty : TypeId) (i : TypeInfo) (hT : P.underlying T = some (.slice E)) (hi : P.info? E = some i) (hz : i.size = kc) {W : World} {B : Nat} {v : Value} {l : List α} (h : LiesG cells kc W B v l)
    (g m : Nat) (M : Array Value) (hM : M.size = m * kc) (hnm : l.length ≤ m) (hg : W.heap[g]? = some (.cells M E (0, 0))) :
    (Builtin.copy_ #[T, T] ty #[.slice (some ⟨g, 0, none⟩) l.length m, v]).run P W = .ok (goInt l.length) (W.setRow g (l.flatMap cells ++ M.toList.drop (l.length * kc)).toArray) := by
  have hl : (l.flatMap cells).length = l.length * kc := flat_len hc l
  have hle : l.length * kc ≤ m * kc := Nat.mul_le_mul_right kc hnm
  have hone2 : ∀ u ∈ l.flatMap cells, u.oneCell' = true := by
    intro u hu
    obtain ⟨f, _, hf⟩ := List.mem_flatMap.1 hu
    exact hone f u hf
  have hst := run_storeCells_at P g 0 E (l.flatMap cells) 0 M W hg (by rw [hM, hl]; omega) hone2
  have hmin : Nat.min l.length l.length = l.length := Nat.min_self _
  simp only [Nat.add_zero, List.take_zero, List.nil_append, Nat.zero_add, hl] at hst
  obtain ⟨ao, cap, rfl, hlen, hcc⟩ := h
  cases ao with
  | none =>
    rcases hcc with rfl | ⟨g2, off, e, _⟩
    · simp at hst
      simp [Builtin.copy_, run_underlying hT, Builtin.lenOf, Builtin.firstCells, sizeOf, typeInfo, hi, storeCells]
      rw [setRow_self W g M E (0, 0) hg]
    · cases e
  | some a =>
    have hcell : ∀ j u, (l.flatMap cells)[j]? = some u → W.cell? (a.add j) = some u := by
      intro j u hu
      rcases hcc with rfl | ⟨g2, off, e, _, hcc⟩
      · cases hu
      · cases e
        obtain ⟨x, hx, hxu⟩ := flat_div hk hc l j u hu
        have := hcc (j / kc) x hx (j % kc) u hxu
        rw [Nat.mul_comm, Nat.div_add_mod] at this
        rw [Addr.add_mid]
        exact this
    have hld := run_loadCells_list (P := P) W a (l.flatMap cells) hcell
    rw [hl] at hld
    simp [Builtin.copy_, run_underlying hT, Builtin.lenOf, Builtin.firstCells, sizeOf, typeInfo, hi, hz, hld, hst, hmin]
set_option maxHeartbeats 8000000 in
theorem twinIns_any (l : List In) (B : Nat) (v : Value) (w : World) (hL : LiesG In.cells 6 w B v l) (hI : ∀ f ∈ l, InOk f) (hBw : B ≤ w.heap.size) (hsm : l.length ≤ 262144) :
    Calls Try.prog 73 #[v] w (TwE In.cells 53 6 InI l.length mkI (fun l' => l' = l) w) := by
  obtain ⟨ao, cap, rfl, hlen, hgo⟩ := hL.form
  obtain ⟨N, hN⟩ : ∃ N, N = l.length := ⟨_, rfl⟩
  have hNs : N ≤ 262144 := by rw [hN]; exact hsm
  obtain ⟨i0, hi, hz0, hz1, hz2⟩ := info_parts twiI
  obtain ⟨M, hM⟩ : ∃ M, M = madeCells (Value.cells (.agg #[.int .u8 0, .int .u8 0, .int .i64 0, .int .i64 0, .int .i64 0, .int .i64 0])) (((N : Int) + 2).toNat * i0.size) := ⟨_, rfl⟩
  have hMs : M.size = (N + 2) * 6 := by rw [hM, size_madeCells, hz1]; congr 1
  have hmk : (Instr.makeSlice 46 (.int .i64 (N : Int)) (.int .i64 ((N : Int) + 2))).run Try.prog w = .ok (.slice (some ⟨w.heap.size, 0, none⟩) N (N + 2)) (w.alloc (.cells M 53)) := by
    have h := run_make (P := Try.prog) w 46 53 i0 (.agg #[.int .u8 0, .int .u8 0, .int .i64 0, .int .i64 0, .int .i64 0, .int .i64 0]) Try.underlying46 hi hz0 .i64 .i64 (N : Int) ((N : Int) + 2) (by omega) (by omega) (by rw [hz2]; omega) (by omega)
    rw [← hM, show ((N : Int) + 2).toNat = N + 2 by omega] at h
    simpa using h
  obtain ⟨W0, hW0⟩ : ∃ W0, W0 = w.alloc (.cells M 53) := ⟨_, rfl⟩
  have hb0 : Below w.heap.size w W0 := by rw [hW0]; exact below_box w _
  have hg0 : W0.heap[w.heap.size]? = some (.cells M 53 (0, 0)) := by rw [hW0]; exact (MapKept.heap_alloc _ _).1
  have hlt0 : w.heap.size < W0.heap.size := by rw [hW0]; simp
  have hcp := copy_lies (P := Try.prog) (by omega) kcells_len (fun a u hu => by simp only [In.cells, List.mem_cons, List.not_mem_nil, or_false] at hu; rcases hu with rfl | rfl | rfl | rfl | rfl | rfl <;> rfl) 46 53 3 i0 Try.underlying46 hi hz1 (hL.below (hb0.mono hBw)) w.heap.size (N + 2) M hMs (by omega) hg0
  rw [← hN] at hcp
  obtain ⟨R, hR⟩ : ∃ A, A = (l.flatMap In.cells ++ M.toList.drop (N * 6)).toArray := ⟨_, rfl⟩
  rw [← hR] at hcp
  obtain ⟨wr, hwr⟩ : ∃ u, u = W0.setRow w.heap.size R := ⟨_, rfl⟩
  have hrow : wr.heap[w.heap.size]? = some (.cells R 53 (0, 0)) := by rw [hwr]; exact setRow_heap _ _ M R 53 (0, 0) hg0
  have hsr : wr.heap.size = W0.heap.size := by rw [hwr]; simp [World.setRow]
  have hbw : Below w.heap.size w wr := hb0.trans ⟨by rw [hwr]; rfl, by rw [hwr]; rfl, by rw [hwr]; rfl, by rw [hsr]; exact Nat.le_refl _, fun k hk => by rw [hwr]; exact setRow_other _ _ _ _ (by omega)⟩
  have hS : TwS In.cells 53 6 InI w.heap.size N N w wr l R (M.toList.drop (N * 6)) :=
    ⟨hN.symm, hbw, by rw [hsr]; exact hlt0, hrow, by rw [hR], by rw [List.length_drop, Array.length_toList, hMs, show N + 2 - N = 2 by omega]; omega, fun a ha => fun v _ => hI a ha⟩
  rw [← hwr] at hcp
  rw [← hN] at hlen ⊢
  have HM := Lib.hid hS.marks
  rw [hW0] at hcp
  clear hi hz0 hz1 hz2 hM hMs hb0 hg0 hlt0 hL hI hgo hN hR hwr hrow hsr hbw hS hW0
  go_enter Try.func73, Try.ntmps73
  have HM1 := HM
  clear HM
  obtain ⟨R1, hR1⟩ : ∃ A, A = R := ⟨_, rfl⟩
  rw [← hR1] at HM1
  clear hR1
  have HK1 := Lib.hid (fun w => markIns_any N (by omega) w)
  have HK2 := Lib.hid (fun w => (show ((N + 1 : Nat) : Int) = (N : Int) + 1 by push_cast; rfl) ▸ markIns_any (N + 1) (by omega) w)
  go_wp2_with fail
  refine wp_loop_rounds 3 ?_
  rw [rounds_succ]
  go_wp2_with fail
  refine (HK1.out wr).mono ?_; rintro e w1 ⟨rfl, hb1⟩
  have HO1 := Lib.hid ((hb1.block _ HM1.out.lt).trans HM1.out.row)
  have HR1 := Lib.hid (show N * 6 + (markIns N).toArray.size ≤ R1.size by rw [HM1.out.rsize kcells_len (by omega), List.size_toArray, markIns_len]; omega)
  have HB1 := Lib.hid hb1
  obtain ⟨NEW1, hNEW1⟩ : ∃ A : Array Value, A = R1.extract 0 ((N + 0) * 6) ++ (markIns N).toArray ++ R1.extract ((N + 0) * 6 + (markIns N).toArray.size) R1.size := ⟨_, rfl⟩
  have HNEW1 := Lib.hid hNEW1
  clear hNEW1 hb1
  go_wp2_with (refine wpList_put_at rfl 53 (Operand.tmp 32) (Operand.tmp 31) rfl w.heap.size (N * 6) 53 R1 (markIns N).toArray NEW1 rfl rfl HO1.out HR1.out (by kernel_rfl) (markIns_one N) HNEW1.out ?_)
  intro w2 hp2
  have HM2 := Lib.hid (HM1.out.step kcells_len (fun v B B2 a h q => q) (by omega) (markIns_len N) HB1.out HNEW1.out hp2)
  clear hp2
  go_wp2_with fail
  obtain ⟨R2, hR2⟩ : ∃ A, A = NEW1 := ⟨_, rfl⟩
  rw [← hR2] at HM2
  clear hR2
  rw [rounds_succ]
  go_wp2_with fail
  refine (HK2.out w2).mono ?_; rintro e w3 ⟨rfl, hb3⟩
  have HO2 := Lib.hid ((hb3.block _ HM2.out.lt).trans HM2.out.row)
  have HR2 := Lib.hid (show (N + 1) * 6 + (markIns (N + 1)).toArray.size ≤ R2.size by rw [HM2.out.rsize kcells_len (by omega), List.size_toArray, markIns_len]; omega)
  have HB2 := Lib.hid hb3
  obtain ⟨NEW2, hNEW2⟩ : ∃ A : Array Value, A = R2.extract 0 ((N + 1) * 6) ++ (markIns (N + 1)).toArray ++ R2.extract ((N + 1) * 6 + (markIns (N + 1)).toArray.size) R2.size := ⟨_, rfl⟩
  have HNEW2 := Lib.hid hNEW2
  clear hNEW2 hb3
  go_wp2_with (refine wpList_put_at rfl 53 (Operand.tmp 32) (Operand.tmp 31) rfl w.heap.size ((N + 1) * 6) 53 R2 (markIns (N + 1)).toArray NEW2 rfl rfl HO2.out HR2.out (by kernel_rfl) (markIns_one (N + 1)) HNEW2.out ?_)
  intro w4 hp4
  have HM3 := Lib.hid (HM2.out.step kcells_len (fun v B B2 a h q => q) (by omega) (markIns_len (N + 1)) HB2.out HNEW2.out hp4)
  clear hp4
  go_wp2_with fail
  rw [rounds_succ]
  go_wp2_with fail
  go_ret
  exact ⟨_, l, NEW2, markIns N, markIns (N + 1), rfl, rfl, HM3.out.done (markIns_len N) (markIns_len (N + 1)) rfl rfl⟩
def InB (_ : World) (_ : Nat) (_ : Bool) : Prop := True
def mkB (N : Nat) (n : Nat) (t : List Value) : Prop := t = [.bool (decide (n = N))]
set_option maxHeartbeats 8000000 in
theorem twinFlags_any (l : List Bool) (B : Nat) (v : Value) (w : World) (hL : LiesG Bcells 1 w B v l) (_hI : ∀ f ∈ l, True) (hBw : B ≤ w.heap.size) (hsm : l.length ≤ 262144) :
    Calls Try.prog 44 #[v] w (TwE Bcells 4 1 InB l.length (mkB l.length) (fun l' => l' = l) w) := by
  obtain ⟨ao, cap, rfl, hlen, hgo⟩ := hL.form
  obtain ⟨N, hN⟩ : ∃ N, N = l.length := ⟨_, rfl⟩
  have hNs : N ≤ 262144 := by rw [hN]; exact hsm
  obtain ⟨i0, hi, hz0, hz1, hz2⟩ := info_parts twiB
  obtain ⟨M, hM⟩ : ∃ M, M = madeCells (Value.cells (.bool false)) (((N : Int) + 2).toNat * i0.size) := ⟨_, rfl⟩
  have hMs : M.size = (N + 2) * 1 := by rw [hM, size_madeCells, hz1]; congr 1
  have hmk : (Instr.makeSlice 42 (.int .i64 (N : Int)) (.int .i64 ((N : Int) + 2))).run Try.prog w = .ok (.slice (some ⟨w.heap.size, 0, none⟩) N (N + 2)) (w.alloc (.cells M 4)) := by
    have h := run_make (P := Try.prog) w 42 4 i0 (.bool false) Try.underlying42 hi hz0 .i64 .i64 (N : Int) ((N : Int) + 2) (by omega) (by omega) (by rw [hz2]; omega) (by omega)
    rw [← hM, show ((N : Int) + 2).toNat = N + 2 by omega] at h
    simpa using h
  obtain ⟨W0, hW0⟩ : ∃ W0, W0 = w.alloc (.cells M 4) := ⟨_, rfl⟩
  have hb0 : Below w.heap.size w W0 := by rw [hW0]; exact below_box w _
  have hg0 : W0.heap[w.heap.size]? = some (.cells M 4 (0, 0)) := by rw [hW0]; exact (MapKept.heap_alloc _ _).1
  have hlt0 : w.heap.size < W0.heap.size := by rw [hW0]; simp
  have hcp := copy_lies (P := Try.prog) (by omega) bcells_len (fun a u hu => by simp only [Bcells, List.mem_cons, List.not_mem_nil, or_false] at hu; subst hu; rfl) 42 4 3 i0 Try.underlying42 hi hz1 (hL.below (hb0.mono hBw)) w.heap.size (N + 2) M hMs (by omega) hg0
  rw [← hN] at hcp
  obtain ⟨R, hR⟩ : ∃ A, A = (l.flatMap Bcells ++ M.toList.drop (N * 1)).toArray := ⟨_, rfl⟩
  rw [← hR] at hcp
  obtain ⟨wr, hwr⟩ : ∃ u, u = W0.setRow w.heap.size R := ⟨_, rfl⟩
  have hrow : wr.heap[w.heap.size]? = some (.cells R 4 (0, 0)) := by rw [hwr]; exact setRow_heap _ _ M R 4 (0, 0) hg0
  have hsr : wr.heap.size = W0.heap.size := by rw [hwr]; simp [World.setRow]
  have hbw : Below w.heap.size w wr := hb0.trans ⟨by rw [hwr]; rfl, by rw [hwr]; rfl, by rw [hwr]; rfl, by rw [hsr]; exact Nat.le_refl _, fun k hk => by rw [hwr]; exact setRow_other _ _ _ _ (by omega)⟩
  have hS : TwS Bcells 4 1 InB w.heap.size N N w wr l R (M.toList.drop (N * 1)) :=
    ⟨hN.symm, hbw, by rw [hsr]; exact hlt0, hrow, by rw [hR], by rw [List.length_drop, Array.length_toList, hMs, show N + 2 - N = 2 by omega]; omega, fun a ha => fun v _ => trivial⟩
  rw [← hwr] at hcp
  have hR2 : R.toList = l.flatMap Bcells ++ [.bool false] ++ [.bool false] := by
    have hM2 : M.toList.drop (N * 1) = [.bool false, .bool false] := by
      have hMr : M = (List.replicate (N + 2) (Value.bool false)).toArray := by
        rw [hM, hz1, show ((N : Int) + 2).toNat * 1 = N + 2 by omega]
        show madeCells #[.bool false] (N + 2) = _
        unfold madeCells
        apply Array.ext
        · simp
        · intro i h1 h2
          simp [Nat.mod_one]
      rw [hMr, Nat.mul_one]
      show (List.replicate (N + 2) (Value.bool false)).drop N = _
      rw [List.drop_replicate, show N + 2 - N = 2 by omega]
      rfl
    rw [hR, hM2]; simp
  obtain ⟨w9, hw9⟩ : ∃ u, u = wr.setCell ⟨w.heap.size, N, none⟩ (.bool true) := ⟨_, rfl⟩
  have hrs : R.size = N + 2 := by
    have := flat_len bcells_len l
    rw [← Array.length_toList, hR2, List.length_append, List.length_append, this, hN]
    simp
  have hrow9 : w9.heap[w.heap.size]? = some (.cells (R.setIfInBounds N (.bool true)) 4 (0, 0)) := by rw [hw9]; exact (put_cell hrow).at_b
  have hlist9 : (R.setIfInBounds N (.bool true)).toList = l.flatMap Bcells ++ ([.bool true] ++ [.bool false]) := by
    have hfl : (l.flatMap Bcells).length = N := by rw [flat_len bcells_len l, hN, Nat.mul_one]
    rw [Array.toList_setIfInBounds, hR2, List.append_assoc, List.set_append_right _ _ (by omega), hfl, Nat.sub_self]
    rfl
  have hsz9 : w9.heap.size = wr.heap.size := by rw [hw9]; simp [World.setCell]
  have hb9 : Below w.heap.size w w9 := by rw [hw9]; exact hbw.setCell (by show w.heap.size ≤ w.heap.size; omega) _
  have HEND := Lib.hid (show TwL Bcells 4 1 InB N (mkB N) w w9 (.slice (some ⟨w.heap.size, 0, none⟩) N (N + 2)) l (R.setIfInBounds N (.bool true)) [.bool true] [.bool false] from
    ⟨rfl, hN.symm, hb9, by rw [hsz9, hsr]; exact hlt0, hrow9, hlist9, rfl, rfl, by simp [mkB], by simp [mkB], fun _ _ => fun _ _ => trivial⟩)
  have HW9 := Lib.hid hw9
  have f0 : wr.frozen? ⟨w.heap.size, N, none⟩ = false := Lib.frozen_of_heap hrow N
  have s0 : wr.cell? ⟨w.heap.size, N, none⟩ = some (.bool false) := by
    rw [Lib.cell_of_heap hrow]
    rw [← Array.getElem?_toList, hR2, List.append_assoc, List.getElem?_append_right (by rw [flat_len bcells_len l]; omega), flat_len bcells_len l]
    simp [hN]
  have hlw : w.heap.size < wr.heap.size := heap_lt' hrow
  rw [← hN] at hlen ⊢
  rw [hW0] at hcp
  clear hi hz0 hz1 hz2 hM hMs hb0 hg0 hlt0 hL hgo hN hR hwr hrow hsr hbw hS hW0 hR2 hw9 hrow9 hlist9 hsz9 hb9 hrs
  go_enter Try.func44, Try.ntmps44
  go_wp2_with fail
  go_ret
  rw [← HW9.out]
  exact ⟨_, l, _, _, _, rfl, rfl, HEND.out⟩
end Go.Proofs.Ytijciojipcgiaaa
namespace Go.Proofs.Ytijciojipcgiaaa
open Go.RowKit Go.Joins
set_option maxRecDepth 100000
attribute [local go_sem ↓] bld_eq bls_eq
theorem bkcells_len (a : Bk) : (Bk.cells a).length = 5 := rfl
def ibOf : Value → Nat
  | .slice (some a) _ _ => a.block
  | _ => 0
/-- A copied block: its instructions lie in a row of their own. -/
def KB (v : World) (B : Nat) (a : Bk) : Prop := ∃ ib R, a.iv = .slice (some ⟨ib, 0, none⟩) a.ins.length (a.ins.length + 2) ∧ ib < B ∧ v.heap[ib]? = some (.cells R 53 (0, 0)) ∧ R.toList = a.ins.flatMap In.cells ++ (markIns a.ins.length ++ markIns (a.ins.length + 1)) ∧ BkOk a ∧ ∀ i ∈ a.ins, InOk i
theorem KB.up {v : World} {B B' : Nat} {a : Bk} (hB : B ≤ B') (h : KB v B a) : KB v B' a := by
  obtain ⟨ib, R, h1, h2, r⟩ := h
  exact ⟨ib, R, h1, by omega, r⟩
theorem KB.lt {v : World} {B : Nat} {a : Bk} (h : KB v B a) : ibOf a.iv < B := by
  obtain ⟨ib, R, h1, h2, r⟩ := h
  rw [h1]; exact h2
def Bk.bare (b : Bk) : List In × Int × Int × Int × Int := (b.ins, b.last, b.reg, b.yes, b.no)
def Bk.bares (l : List Bk) : List (List In × Int × Int × Int × Int) := l.map Bk.bare
theorem Bk_bares_append (a b : List Bk) : Bk.bares (a ++ b) = Bk.bares a ++ Bk.bares b := List.map_append
theorem Bk_bares_one (a : Bk) : Bk.bares [a] = [a.bare] := rfl
def markBlk (n : Nat) : List Value := [.slice none 0 0, .int .u8 0, .int .i64 (-1000 - (n : Int)), .int .i64 0, .int .i64 0]
theorem markBlk_len (n : Nat) : (markBlk n).length = 5 := rfl
theorem markBlk_one (n : Nat) : (markBlk n).toArray.all (·.oneCell') = true := by simp [markBlk, Value.oneCell']
def mkK (n : Nat) (t : List Value) : Prop := t = markBlk n
theorem twiK : (Try.prog.info? 49).map (fun i => (i.zero, i.size, i.bytes)) = some (some (.agg #[.slice none 0 0, .int .u8 0, .int .i64 0, .int .i64 0, .int .i64 0]), 5, 56) := by kernel_rfl
set_option maxHeartbeats 4000000 in
theorem markBlk_any (n : Nat) (h : n ≤ 1000000) (w : World) : Calls Try.prog 61 #[.int .i64 (n : Int)] w fun e w' => e = .returned (.agg (markBlk n).toArray) ∧ Below w.heap.size w w' := by
  have e5 := bld_of 49 #[(2, .int .i64 (-1000 - (n : Int)))] (markBlk n).toArray (by kernel_rfl)
  have hP := (MapKept.heap_alloc w (.cells #[.slice none 0 0, .int .u8 0, .int .i64 0, .int .i64 0, .int .i64 0] 49)).1
  have HP := Lib.hid hP
  have HB := Lib.hid (below_box w (.cells #[.slice none 0 0, .int .u8 0, .int .i64 0, .int .i64 0, .int .i64 0] 49))
  obtain ⟨C, hC⟩ : ∃ C, C = (markBlk n).toArray := ⟨_, rfl⟩
  have hCs : C.size = 5 := by rw [hC]; rfl
  have hC1 : C.all (·.oneCell') = true := by rw [hC]; exact markBlk_one n
  rw [← hC] at e5 ⊢
  have HC := Lib.hid (And.intro hCs hC1)
  clear hP hC hCs hC1
  go_enter Try.func61, Try.ntmps61
  go_wp2_with (refine wpList_put rfl 49 (Operand.tmp 2) (Operand.tmp 5) rfl w.heap.size 49 _ C rfl rfl HP.out (by rw [HC.out.1]; rfl) (by rw [HC.out.1]; kernel_rfl) HC.out.2 ?_)
  intro w5 hp5
  have HQ := Lib.hid hp5
  clear hp5
  go_wp2_with fail
  refine bodyPost_ret (v := .agg C) (results_cell_row rfl _ _ w.heap.size 49 _ (0, 0) _ rfl HQ.out.at_b Try.underlying49 rfl (by rw [HC.out.1]; kernel_rfl)) rfl ?_
  exact ⟨rfl, HQ.out.below HB.out (Nat.le_refl _)⟩
def TwKE (r : Bk) (w : World) (e : Ending) (w' : World) : Prop := ∃ y : Bk, e = .returned (.agg #[y.iv, .int .u8 y.last, .int .i64 y.reg, .int .i64 y.yes, .int .i64 y.no]) ∧ y.bare = r.bare ∧ Below w.heap.size w w' ∧ (NewW w.heap.size w' fun v => KB v w'.heap.size y) ∧ w.heap.size ≤ ibOf y.iv
set_option maxHeartbeats 8000000 in
theorem twinBlock_any (r : Bk) (B : Nat) (w : World) (hI : BIn w B r) (hBw : B ≤ w.heap.size) (hsz : r.ins.length ≤ 262144) :
    Calls Try.prog 60 #[.agg #[r.iv, .int .u8 r.last, .int .i64 r.reg, .int .i64 r.yes, .int .i64 r.no]] w (TwKE r w) := by
  obtain ⟨po, pc, ep, -⟩ := hI.lies.form
  have hpr := hI.lies.room
  obtain ⟨W2, hW2⟩ : ∃ W2, W2 = (w.alloc (.cells #[.slice po r.ins.length pc, .int .u8 r.last, .int .i64 r.reg, .int .i64 r.yes, .int .i64 r.no] 49)).alloc (.cells #[.slice none 0 0, .int .u8 0, .int .i64 0, .int .i64 0, .int .i64 0] 49) := ⟨_, rfl⟩
  have hb1 := below_box w (.cells #[.slice po r.ins.length pc, .int .u8 r.last, .int .i64 r.reg, .int .i64 r.yes, .int .i64 r.no] 49)
  have hb2 : Below w.heap.size w W2 := by rw [hW2]; exact hb1.alloc (by simp) _
  have hz2 : W2.heap.size = w.heap.size + 2 := by rw [hW2]; simp
  have hO2 : W2.heap[w.heap.size]? = some (.cells #[.slice po r.ins.length pc, .int .u8 r.last, .int .i64 r.reg, .int .i64 r.yes, .int .i64 r.no] 49 (0, 0)) := by
    rw [hW2, Below.heap_alloc _ _ _ (by simp)]; exact (MapKept.heap_alloc _ _).1
  have hP2 : W2.heap[w.heap.size + 1]? = some (.cells #[.slice none 0 0, .int .u8 0, .int .i64 0, .int .i64 0, .int .i64 0] 49 (0, 0)) := by
    rw [hW2]; have := (MapKept.heap_alloc (w.alloc (.cells #[.slice po r.ins.length pc, .int .u8 r.last, .int .i64 r.reg, .int .i64 r.yes, .int .i64 r.no] 49)) (.cells #[.slice none 0 0, .int .u8 0, .int .i64 0, .int .i64 0, .int .i64 0] 49)).1; simpa using this
  have hK := twinIns_any r.ins B r.iv W2 (hI.lies.below (hb2.mono hBw)) hI.ins (by omega) hsz
  have p0 : W2.cell? ⟨w.heap.size, 0, none⟩ = some (.slice po r.ins.length pc) := by rw [Lib.cell_of_heap hO2]; rfl
  rw [ep] at hK ⊢
  have HIN := Lib.hid hI
  have HZ2 := Lib.hid hz2
  rw [hW2] at p0
  have HK := Lib.hid hK
  have HW2 := Lib.hid hW2
  have HB2 := Lib.hid hb2
  have HO2 := Lib.hid hO2
  have HP2 := Lib.hid hP2
  clear hK hW2 hb1 hb2 hO2 hP2 hz2 hI hsz ep
  go_enter Try.func60, Try.ntmps60
  go_wp2_with fail
  rw [← HW2.out]
  refine HK.out.mono ?_; intro e w3 hq
  obtain ⟨v, l', R, t1, t2, rfl, hsame, hT3⟩ := hq
  have hv := hT3.val
  subst hv
  obtain rfl := hsame
  have hb3 := hT3.below
  have hs3 := hb3.size
  have hO3 := (hb3.block w.heap.size (by have := HZ2.out; omega)).trans HO2.out
  have HP3 := Lib.hid ((hb3.block (w.heap.size + 1) (by have := HZ2.out; omega)).trans HP2.out)
  have hsz3 : w.heap.size + 2 ≤ w3.heap.size := by have := HZ2.out; omega
  have f0 := Lib.frozen_of_heap hO3 0
  have q0 : w3.cell? ⟨w.heap.size, 0, none⟩ = some (.slice po r.ins.length pc) := by rw [Lib.cell_of_heap hO3]; rfl
  have q1 : w3.cell? ⟨w.heap.size, 1, none⟩ = some (.int .u8 r.last) := by rw [Lib.cell_of_heap hO3]; rfl
  have q2 : w3.cell? ⟨w.heap.size, 2, none⟩ = some (.int .i64 r.reg) := by rw [Lib.cell_of_heap hO3]; rfl
  have q3 : w3.cell? ⟨w.heap.size, 3, none⟩ = some (.int .i64 r.yes) := by rw [Lib.cell_of_heap hO3]; rfl
  have q4 : w3.cell? ⟨w.heap.size, 4, none⟩ = some (.int .i64 r.no) := by rw [Lib.cell_of_heap hO3]; rfl
  have HT3 := Lib.hid hT3
  have HB3 := Lib.hid (HB2.out.trans (hb3.mono (by have := HZ2.out; omega)))
  have HP4 := Lib.hid (show (w3.setCell ⟨w.heap.size, 0, none⟩ (.slice (some ⟨W2.heap.size, 0, none⟩) r.ins.length (r.ins.length + 2))).heap[w.heap.size + 1]? = some (.cells #[.slice none 0 0, .int .u8 0, .int .i64 0, .int .i64 0, .int .i64 0] 49 (0, 0)) from (Below.heap_setCell _ _ _ _ (by show w.heap.size + 1 ≠ w.heap.size; omega)).trans HP3.out)
  clear hT3 hb3 hO3 p0
  go_wp2_with (refine wpList_put rfl 49 (Operand.tmp 2) (Operand.tmp 7) rfl (w.heap.size + 1) 49 _ #[.slice (some ⟨W2.heap.size, 0, none⟩) r.ins.length (r.ins.length + 2), .int .u8 r.last, .int .i64 r.reg, .int .i64 r.yes, .int .i64 r.no] rfl rfl HP4.out rfl (by kernel_rfl) (by simp [Value.oneCell']) ?_)
  intro w5 hp5
  have HP := Lib.hid hp5
  clear hp5
  go_wp2_with fail
  refine bodyPost_ret (v := .agg #[.slice (some ⟨W2.heap.size, 0, none⟩) r.ins.length (r.ins.length + 2), .int .u8 r.last, .int .i64 r.reg, .int .i64 r.yes, .int .i64 r.no]) (results_cell_row rfl _ _ (w.heap.size + 1) 49 _ (0, 0) _ rfl HP.out.at_b Try.underlying49 rfl (by kernel_rfl)) rfl ?_
  have hz2 := HZ2.out
  have hz5 : w5.heap.size = w3.heap.size := by rw [HP.out.size]; simp [World.setCell]
  refine ⟨⟨.slice (some ⟨W2.heap.size, 0, none⟩) r.ins.length (r.ins.length + 2), r.ins, r.last, r.reg, r.yes, r.no⟩, rfl, rfl, ?_, ?_, by show w.heap.size ≤ W2.heap.size; omega⟩
  · exact HP.out.below ((HB3.out).setCell (show w.heap.size ≤ w.heap.size from Nat.le_refl _) _) (by omega)
  · intro u hu
    have hu2 : ∀ g, W2.heap.size ≤ g → g < w3.heap.size → u.heap[g]? = w3.heap[g]? := fun g h1 h2 => (hu g (by omega) (by rw [hz5]; exact h2)).trans ((HP.out.rest g (by omega)).trans (Below.heap_setCell _ _ _ _ (by show g ≠ w.heap.size; omega)))
    rw [hz5]
    have ht1 := HT3.out.m1
    have ht2 := HT3.out.m2
    unfold mkI at ht1 ht2
    exact ⟨W2.heap.size, R, rfl, HT3.out.lt, (hu2 _ (Nat.le_refl _) HT3.out.lt).trans HT3.out.row, by rw [HT3.out.list, ht1, ht2], ⟨HIN.out.ok.last, HIN.out.ok.reg, HIN.out.ok.yes, HIN.out.ok.no⟩, HIN.out.ins⟩
end Go.Proofs.Ytijciojipcgiaaa
namespace Go.Proofs.Ytijciojipcgiaaa
open Go.RowKit Go.Joins
set_option maxRecDepth 100000
attribute [local go_sem ↓] bld_eq bls_eq
/-- The blocks of memory of a copied row's things go up. -/
theorem order_step {α : Type} {ids : α → List Nat} {l : List α} {y : α} {L m : Nat} (hL : L < m) (h : (l.flatMap ids).Pairwise (· < ·) ∧ ∀ x ∈ l.flatMap ids, L < x) (hlt : ∀ a ∈ l, ∀ x ∈ ids a, x < m) (hy : (ids y).Pairwise (· < ·)) (hm : ∀ x ∈ ids y, m ≤ x) :
    ((l ++ [y]).flatMap ids).Pairwise (· < ·) ∧ ∀ x ∈ (l ++ [y]).flatMap ids, L < x := by
  have e : (l ++ [y]).flatMap ids = l.flatMap ids ++ ids y := by simp
  rw [e]
  refine ⟨List.pairwise_append.2 ⟨h.1, hy, fun a ha b hb => ?_⟩, fun x hx => ?_⟩
  · obtain ⟨c, hc, hac⟩ := List.mem_flatMap.1 ha
    exact Nat.lt_of_lt_of_le (hlt c hc a hac) (hm b hb)
  · rcases List.mem_append.1 hx with hx | hx
    · exact h.2 x hx
    · exact Nat.lt_of_lt_of_le hL (hm x hx)
def Bk.id (b : Bk) : List Nat := [ibOf b.iv]
theorem Bk_id_lt {v : World} {B : Nat} {a : Bk} (h : KB v B a) : ∀ x ∈ a.id, x < B := by
  intro x hx
  simp only [Bk.id, List.mem_cons, List.not_mem_nil, or_false] at hx
  subst hx
  exact h.lt
set_option maxHeartbeats 16000000 in
theorem twinBlocks_any (l : List Bk) (B : Nat) (v : Value) (w : World) (hL : LiesG Bk.cells 5 w B v l) (hI : ∀ a ∈ l, BIn w B a) (hBw : B ≤ w.heap.size) (hsm : l.length ≤ 262144) (hsz : ∀ a ∈ l, a.ins.length ≤ 262144) :
    Calls Try.prog 45 #[v] w (TwE Bk.cells 49 5 KB l.length mkK (fun l' => Bk.bares l' = Bk.bares l ∧ (l'.flatMap Bk.id).Pairwise (· < ·) ∧ ∀ x ∈ l'.flatMap Bk.id, w.heap.size < x) w) := by
  have hroom := hL.room
  obtain ⟨ao, cap, rfl, hlen, hgo⟩ := hL.form
  obtain ⟨N, hN⟩ : ∃ N, N = l.length := ⟨_, rfl⟩
  have hNs : N ≤ 262144 := by rw [hN]; exact hsm
  obtain ⟨i0, hi, hz0, hz1, hz2⟩ := info_parts twiK
  obtain ⟨M, hM⟩ : ∃ M, M = madeCells (Value.cells (.agg #[.slice none 0 0, .int .u8 0, .int .i64 0, .int .i64 0, .int .i64 0])) (((N : Int) + 2).toNat * i0.size) := ⟨_, rfl⟩
  have hMs : M.size = (N + 2) * 5 := by rw [hM, size_madeCells, hz1]; congr 1
  have hmk : (Instr.makeSlice 43 (.int .i64 (N : Int)) (.int .i64 ((N : Int) + 2))).run Try.prog w = .ok (.slice (some ⟨w.heap.size, 0, none⟩) N (N + 2)) (w.alloc (.cells M 49)) := by
    have h := run_make (P := Try.prog) w 43 49 i0 (.agg #[.slice none 0 0, .int .u8 0, .int .i64 0, .int .i64 0, .int .i64 0]) Try.underlying43 hi hz0 .i64 .i64 (N : Int) ((N : Int) + 2) (by omega) (by omega) (by rw [hz2]; omega) (by omega)
    rw [← hM, show ((N : Int) + 2).toNat = N + 2 by omega] at h
    simpa using h
  obtain ⟨W0, hW0⟩ : ∃ W0, W0 = w.alloc (.cells M 49) := ⟨_, rfl⟩
  have hb0 : Below w.heap.size w W0 := by rw [hW0]; exact below_box w _
  have hlt0 : w.heap.size < W0.heap.size := by rw [hW0]; simp
  have hS0 : TwS Bk.cells 49 5 KB w.heap.size N 0 w W0 [] M M.toList :=
    ⟨rfl, hb0, hlt0, by rw [hW0]; exact (MapKept.heap_alloc _ _).1, by simp, by rw [Array.length_toList, hMs]; rfl, fun a ha => by cases ha⟩
  rw [← hN] at hlen hgo hL ⊢
  have HS0 := Lib.hid hS0
  have HW0 := Lib.hid hW0
  have HL := Lib.hid hL
  have HIN := Lib.hid hI
  have HG := Lib.hid hgo
  have HN := Lib.hid hN
  have HSZ := Lib.hid (hsz)
  clear hi hz0 hz1 hz2 hM hMs hb0 hS0 hW0 hL hI hgo hN hroom
  rw [HW0.out.symm] at hmk
  go_enter Try.func45, Try.ntmps45
  go_wp2_with fail
  go_loopw [15] (fun i wr => ∃ k : Nat, k ≤ N ∧ i = .int .i64 k ∧ Hid (∃ l' R rest, Bk.bares l' = Bk.bares (l.take k) ∧ ((l'.flatMap Bk.id).Pairwise (· < ·) ∧ ∀ x ∈ l'.flatMap Bk.id, w.heap.size < x) ∧ TwS Bk.cells 49 5 KB w.heap.size N k w wr l' R rest)) (fun i _ => N - (intOf i).toNat)
  case atStart => exact ⟨0, by omega, rfl, Lib.hid ⟨[], M, M.toList, by rw [List.take_zero], ⟨List.Pairwise.nil, fun x hx => by cases hx⟩, HS0.out⟩⟩
  case round =>
    obtain ⟨k, hkN, rfl, HR⟩ := hrel
    obtain ⟨l', R, rest, hsame, hord, hS⟩ := HR.out
    clear HR
    have hbw := hS.below
    have hsw := hbw.size
    have hlb := hS.lt
    by_cases hlt2 : k < N
    · have hpx : k < l.length := by rw [← HN.out]; exact hlt2
      obtain ⟨g, off, rfl, hg⟩ := HG.out (by omega)
      have hat := ((HL.out.below (hbw.mono hBw)).at rfl k hpx).2
      have hma := List.getElem_mem hpx
      have hIa := (HIN.out _ hma).keeps (hbw.mono hBw)
      have htk : l.take (k + 1) = l.take k ++ [l[k]] := List.take_succ_eq_append_getElem hpx
      have hPa := twinBlock_any l[k] B wr hIa (by omega) (HSZ.out l[k] hma)
      have p0 : wr.cell? ⟨g, off + k * 5, none⟩ = some l[k].iv := hat 0 _ rfl
      have p1 : wr.cell? ⟨g, off + k * 5 + 1, none⟩ = some (.int .u8 l[k].last) := hat 1 _ rfl
      have p2 : wr.cell? ⟨g, off + k * 5 + 2, none⟩ = some (.int .i64 l[k].reg) := hat 2 _ rfl
      have p3 : wr.cell? ⟨g, off + k * 5 + 3, none⟩ = some (.int .i64 l[k].yes) := hat 3 _ rfl
      have p4 : wr.cell? ⟨g, off + k * 5 + 4, none⟩ = some (.int .i64 l[k].no) := hat 4 _ rfl
      generalize l[k] = a at *
      obtain ⟨fo, fc, ef, -⟩ := hIa.lies.form
      rw [ef] at p0 hPa
      have HPA := Lib.hid hPa
      have HS := Lib.hid hS
      have HTK := Lib.hid htk
      have HSAME := Lib.hid hsame
      have HORD := Lib.hid hord
      have hgs : g < wr.heap.size := by omega
      clear hat hma hIa hPa htk hS hsame hbw hord ef
      go_wp2_with fail
      refine HPA.out.mono ?_; intro e w1 hq
      obtain ⟨y, rfl, hy, hb1, hn1, hyl0⟩ := hq
      obtain ⟨yb, yR, ey, -⟩ := id hn1.here
      have hyo : y.id.Pairwise (· < ·) := by simp [Bk.id]
      have hyl : ∀ x ∈ y.id, wr.heap.size ≤ x := by intro x hx; simp only [Bk.id, List.mem_cons, List.not_mem_nil, or_false] at hx; subst hx; exact hyl0
      rw [ey]
      have HEY := Lib.hid (show y.cells = [.slice (some ⟨yb, 0, none⟩) y.ins.length (y.ins.length + 2), .int .u8 y.last, .int .i64 y.reg, .int .i64 y.yes, .int .i64 y.no] by unfold Bk.cells; rw [ey])
      clear ey hyl0 p0 p1 p2 p3 p4
      have HO1 := Lib.hid ((hb1.block _ hlb).trans HS.out.row)
      have HRS := Lib.hid (show k * 5 + 5 ≤ R.size by rw [HS.out.rsize bkcells_len (by omega)]; omega)
      have HB1 := Lib.hid hb1
      have HN1 := Lib.hid hn1
      have HY := Lib.hid hy
      have HORD2 := Lib.hid (show ((l' ++ [y]).flatMap Bk.id).Pairwise (· < ·) ∧ ∀ x ∈ (l' ++ [y]).flatMap Bk.id, w.heap.size < x from
        order_step hlb HORD.out (fun a ha => Bk_id_lt (HS.out.new a ha).here) hyo hyl)
      clear hb1 hn1 hy hyo hyl
      obtain ⟨NEW, hNEW⟩ : ∃ A : Array Value, A = R.extract 0 (k * 5) ++ (Bk.cells y).toArray ++ R.extract (k * 5 + (Bk.cells y).toArray.size) R.size := ⟨_, rfl⟩
      have HNEW := Lib.hid hNEW
      clear hNEW
      go_wp2_with (refine wpList_put_at rfl 49 (Operand.tmp 25) (Operand.tmp 24) rfl w.heap.size (k * 5) 49 R #[.slice (some ⟨yb, 0, none⟩) y.ins.length (y.ins.length + 2), .int .u8 y.last, .int .i64 y.reg, .int .i64 y.yes, .int .i64 y.no] NEW rfl rfl HO1.out HRS.out (by kernel_rfl) (by simp [Value.oneCell']) (by rw [HNEW.out, HEY.out]) ?_)
      intro w2 hp
      obtain ⟨rest2, hst⟩ := HS.out.step bkcells_len (fun v B B2 a h q => KB.up h q) (by omega) HB1.out HN1.out HNEW.out hp
      have HST := Lib.hid hst
      clear hst hp
      go_wp2_with fail
      go_roundw
      case rel => exact ⟨k + 1, by omega, by go_num, Lib.hid ⟨_, _, rest2, by rw [Bk_bares_append, HSAME.out, HTK.out, Bk_bares_append, Bk_bares_one, Bk_bares_one, HY.out], HORD2.out, HST.out⟩⟩
      case measure => simp [intOf]; omega
    · obtain rfl : N = k := by omega
      have HM := Lib.hid hS.marks
      have hsame2 : Bk.bares l' = Bk.bares l := by rw [hsame, List.take_of_length_le (by rw [← HN.out]; exact Nat.le_refl _)]
      have HSAME := Lib.hid hsame2
      have HORD := Lib.hid hord
      clear hS hsame hsame2 hbw hord
      have HM1 := HM
      clear HM
      obtain ⟨R1, hR1⟩ : ∃ A, A = R := ⟨_, rfl⟩
      rw [← hR1] at HM1
      clear hR1
      have HK1 := Lib.hid (fun w => markBlk_any N (by omega) w)
      have HK2 := Lib.hid (fun w => (show ((N + 1 : Nat) : Int) = (N : Int) + 1 by push_cast; rfl) ▸ markBlk_any (N + 1) (by omega) w)
      go_wp2_with fail
      refine wp_loop_rounds 3 ?_
      rw [rounds_succ]
      go_wp2_with fail
      refine (HK1.out wr).mono ?_; rintro e w1 ⟨rfl, hb1⟩
      have HO1 := Lib.hid ((hb1.block _ HM1.out.lt).trans HM1.out.row)
      have HR1 := Lib.hid (show N * 5 + (markBlk N).toArray.size ≤ R1.size by rw [HM1.out.rsize bkcells_len (by omega), List.size_toArray, markBlk_len]; omega)
      have HB1 := Lib.hid hb1
      obtain ⟨NEW1, hNEW1⟩ : ∃ A : Array Value, A = R1.extract 0 ((N + 0) * 5) ++ (markBlk N).toArray ++ R1.extract ((N + 0) * 5 + (markBlk N).toArray.size) R1.size := ⟨_, rfl⟩
      have HNEW1 := Lib.hid hNEW1
      clear hNEW1 hb1
      go_wp2_with (refine wpList_put_at rfl 49 (Operand.tmp 44) (Operand.tmp 43) rfl w.heap.size (N * 5) 49 R1 (markBlk N).toArray NEW1 rfl rfl HO1.out HR1.out (by kernel_rfl) (markBlk_one N) HNEW1.out ?_)
      intro w2 hp2
      have HM2 := Lib.hid (HM1.out.step bkcells_len (fun v B B2 a h q => KB.up h q) (by omega) (markBlk_len N) HB1.out HNEW1.out hp2)
      clear hp2
      go_wp2_with fail
      obtain ⟨R2, hR2⟩ : ∃ A, A = NEW1 := ⟨_, rfl⟩
      rw [← hR2] at HM2
      clear hR2
      rw [rounds_succ]
      go_wp2_with fail
      refine (HK2.out w2).mono ?_; rintro e w3 ⟨rfl, hb3⟩
      have HO2 := Lib.hid ((hb3.block _ HM2.out.lt).trans HM2.out.row)
      have HR2 := Lib.hid (show (N + 1) * 5 + (markBlk (N + 1)).toArray.size ≤ R2.size by rw [HM2.out.rsize bkcells_len (by omega), List.size_toArray, markBlk_len]; omega)
      have HB2 := Lib.hid hb3
      obtain ⟨NEW2, hNEW2⟩ : ∃ A : Array Value, A = R2.extract 0 ((N + 1) * 5) ++ (markBlk (N + 1)).toArray ++ R2.extract ((N + 1) * 5 + (markBlk (N + 1)).toArray.size) R2.size := ⟨_, rfl⟩
      have HNEW2 := Lib.hid hNEW2
      clear hNEW2 hb3
      go_wp2_with (refine wpList_put_at rfl 49 (Operand.tmp 44) (Operand.tmp 43) rfl w.heap.size ((N + 1) * 5) 49 R2 (markBlk (N + 1)).toArray NEW2 rfl rfl HO2.out HR2.out (by kernel_rfl) (markBlk_one (N + 1)) HNEW2.out ?_)
      intro w4 hp4
      have HM3 := Lib.hid (HM2.out.step bkcells_len (fun v B B2 a h q => KB.up h q) (by omega) (markBlk_len (N + 1)) HB2.out HNEW2.out hp4)
      clear hp4
      go_wp2_with fail
      rw [rounds_succ]
      go_wp2_with fail
      go_ret
      exact ⟨_, l', NEW2, markBlk N, markBlk (N + 1), rfl, ⟨HSAME.out, HORD.out⟩, HM3.out.done (markBlk_len N) (markBlk_len (N + 1)) rfl rfl⟩
end Go.Proofs.Ytijciojipcgiaaa
namespace Go.Proofs.Ytijciojipcgiaaa
open Go.RowKit Go.Joins
set_option maxRecDepth 100000
attribute [local go_sem ↓] bld_eq bls_eq
theorem gcells_len (a : Gr) : (Gr.cells a).length = 3 := rfl
/-- A copied graph: all its rows are of its own. -/
structure KG (v : World) (B : Nat) (a : Gr) : Prop where
  refs : ∃ rb R, a.rv = .slice (some ⟨rb, 0, none⟩) a.refs.length (a.refs.length + 2) ∧ rb < B ∧ v.heap[rb]? = some (.cells R 4 (0, 0)) ∧ R.toList = a.refs.flatMap Bcells ++ ([.bool true] ++ [.bool false])
  sites : -9223372036854775808 ≤ a.sites ∧ a.sites ≤ 9223372036854775807
  blocks : ∃ bb R, a.bv = .slice (some ⟨bb, 0, none⟩) a.blocks.length (a.blocks.length + 2) ∧ bb < B ∧ v.heap[bb]? = some (.cells R 49 (0, 0)) ∧ R.toList = a.blocks.flatMap Bk.cells ++ (markBlk a.blocks.length ++ markBlk (a.blocks.length + 1))
  each : ∀ b ∈ a.blocks, KB v B b
def Gr.id (a : Gr) : List Nat := ibOf a.rv :: ibOf a.bv :: a.blocks.flatMap Bk.id
theorem KG.up {v : World} {B B' : Nat} {a : Gr} (hB : B ≤ B') (h : KG v B a) : KG v B' a := by
  obtain ⟨⟨rb, R, h1, h2, r⟩, hs, ⟨bb, R2, h3, h4, r2⟩, he⟩ := h
  exact ⟨⟨rb, R, h1, by omega, r⟩, hs, ⟨bb, R2, h3, by omega, r2⟩, fun b hb => (he b hb).up hB⟩
theorem Gr_id_lt {v : World} {B : Nat} {a : Gr} (h : KG v B a) : ∀ x ∈ a.id, x < B := by
  intro x hx
  obtain ⟨⟨rb, R, h1, h2, -⟩, -, ⟨bb, R2, h3, h4, -⟩, he⟩ := h
  simp only [Gr.id, List.mem_cons] at hx
  rcases hx with rfl | rfl | hx
  · rw [h1]; exact h2
  · rw [h3]; exact h4
  · obtain ⟨b, hb, hxb⟩ := List.mem_flatMap.1 hx
    exact Bk_id_lt (he b hb) x hxb
def Gr.bare (a : Gr) : List Bool × Int × List (List In × Int × Int × Int × Int) := (a.refs, a.sites, Bk.bares a.blocks)
def Gr.bares (l : List Gr) : List (List Bool × Int × List (List In × Int × Int × Int × Int)) := l.map Gr.bare
theorem Gr_bares_append (a b : List Gr) : Gr.bares (a ++ b) = Gr.bares a ++ Gr.bares b := List.map_append
theorem Gr_bares_one (a : Gr) : Gr.bares [a] = [a.bare] := rfl
def markGr (n : Nat) : List Value := [.slice none 0 0, .int .i64 (-1000 - (n : Int)), .slice none 0 0]
theorem markGr_len (n : Nat) : (markGr n).length = 3 := rfl
theorem markGr_one (n : Nat) : (markGr n).toArray.all (·.oneCell') = true := by simp [markGr, Value.oneCell']
def mkG (n : Nat) (t : List Value) : Prop := t = markGr n
theorem twiG : (Try.prog.info? 45).map (fun i => (i.zero, i.size, i.bytes)) = some (some (.agg #[.slice none 0 0, .int .i64 0, .slice none 0 0]), 3, 56) := by kernel_rfl
set_option maxHeartbeats 4000000 in
theorem markGr_any (n : Nat) (h : n ≤ 1000000) (w : World) : Calls Try.prog 27 #[.int .i64 (n : Int)] w fun e w' => e = .returned (.agg (markGr n).toArray) ∧ Below w.heap.size w w' := by
  have e5 := bld_of 45 #[(1, .int .i64 (-1000 - (n : Int)))] (markGr n).toArray (by kernel_rfl)
  have hP := (MapKept.heap_alloc w (.cells #[.slice none 0 0, .int .i64 0, .slice none 0 0] 45)).1
  have HP := Lib.hid hP
  have HB := Lib.hid (below_box w (.cells #[.slice none 0 0, .int .i64 0, .slice none 0 0] 45))
  obtain ⟨C, hC⟩ : ∃ C, C = (markGr n).toArray := ⟨_, rfl⟩
  have hCs : C.size = 3 := by rw [hC]; rfl
  have hC1 : C.all (·.oneCell') = true := by rw [hC]; exact markGr_one n
  rw [← hC] at e5 ⊢
  have HC := Lib.hid (And.intro hCs hC1)
  clear hP hC hCs hC1
  go_enter Try.func27, Try.ntmps27
  go_wp2_with (refine wpList_put rfl 45 (Operand.tmp 2) (Operand.tmp 5) rfl w.heap.size 45 _ C rfl rfl HP.out (by rw [HC.out.1]; rfl) (by rw [HC.out.1]; kernel_rfl) HC.out.2 ?_)
  intro w5 hp5
  have HQ := Lib.hid hp5
  clear hp5
  go_wp2_with fail
  refine bodyPost_ret (v := .agg C) (results_cell_row rfl _ _ w.heap.size 45 _ (0, 0) _ rfl HQ.out.at_b Try.underlying45 rfl (by rw [HC.out.1]; kernel_rfl)) rfl ?_
  exact ⟨rfl, HQ.out.below HB.out (Nat.le_refl _)⟩
def TwGE (r : Gr) (w : World) (e : Ending) (w' : World) : Prop := ∃ y : Gr, e = .returned (.agg #[y.rv, .int .i64 y.sites, y.bv]) ∧ y.bare = r.bare ∧ Below w.heap.size w w' ∧ (NewW w.heap.size w' fun v => KG v w'.heap.size y) ∧ y.id.Pairwise (· < ·) ∧ ∀ x ∈ y.id, w.heap.size ≤ x
set_option maxHeartbeats 16000000 in
theorem twinGraph_any (r : Gr) (B : Nat) (w : World) (hI : GIn w B r) (hBw : B ≤ w.heap.size) (hsz : r.refs.length ≤ 262144 ∧ r.blocks.length ≤ 262144 ∧ ∀ a ∈ r.blocks, a.ins.length ≤ 262144) :
    Calls Try.prog 26 #[.agg #[r.rv, .int .i64 r.sites, r.bv]] w (TwGE r w) := by
  obtain ⟨po, pc, ep, -⟩ := hI.rlies.form
  have hpr := hI.rlies.room
  obtain ⟨bo, bc, eb, -⟩ := hI.blies.form
  have hbr := hI.blies.room
  obtain ⟨W2, hW2⟩ : ∃ W2, W2 = (w.alloc (.cells #[.slice po r.refs.length pc, .int .i64 r.sites, .slice bo r.blocks.length bc] 45)).alloc (.cells #[.slice none 0 0, .int .i64 0, .slice none 0 0] 45) := ⟨_, rfl⟩
  have hb1 := below_box w (.cells #[.slice po r.refs.length pc, .int .i64 r.sites, .slice bo r.blocks.length bc] 45)
  have hb2 : Below w.heap.size w W2 := by rw [hW2]; exact hb1.alloc (by simp) _
  have hz2 : W2.heap.size = w.heap.size + 2 := by rw [hW2]; simp
  have hO2 : W2.heap[w.heap.size]? = some (.cells #[.slice po r.refs.length pc, .int .i64 r.sites, .slice bo r.blocks.length bc] 45 (0, 0)) := by
    rw [hW2, Below.heap_alloc _ _ _ (by simp)]; exact (MapKept.heap_alloc _ _).1
  have hP2 : W2.heap[w.heap.size + 1]? = some (.cells #[.slice none 0 0, .int .i64 0, .slice none 0 0] 45 (0, 0)) := by
    rw [hW2]; have := (MapKept.heap_alloc (w.alloc (.cells #[.slice po r.refs.length pc, .int .i64 r.sites, .slice bo r.blocks.length bc] 45)) (.cells #[.slice none 0 0, .int .i64 0, .slice none 0 0] 45)).1; simpa using this
  have hK := twinFlags_any r.refs B r.rv W2 (hI.rlies.below (hb2.mono hBw)) (fun _ _ => trivial) (by omega) hsz.1
  have p0 : W2.cell? ⟨w.heap.size, 0, none⟩ = some (.slice po r.refs.length pc) := by rw [Lib.cell_of_heap hO2]; rfl
  have HKB := Lib.hid (fun (u : World) (hu : Below w.heap.size w u) => twinBlocks_any r.blocks B r.bv u (hI.blies.below (hu.mono hBw)) (fun a ha => (hI.blocks a ha).keeps (hu.mono hBw)) (by have := hu.size; omega) hsz.2.1 hsz.2.2)
  rw [ep] at hK ⊢
  rw [eb]
  have HIN := Lib.hid hI
  have HZ2 := Lib.hid hz2
  rw [hW2] at p0
  have HK := Lib.hid hK
  have HW2 := Lib.hid hW2
  have HB2 := Lib.hid hb2
  have HO2 := Lib.hid hO2
  have HP2 := Lib.hid hP2
  have HEB := Lib.hid eb
  clear hK hW2 hb1 hb2 hO2 hP2 hz2 hI hsz ep eb
  go_enter Try.func26, Try.ntmps26
  go_wp2_with fail
  rw [← HW2.out]
  refine HK.out.mono ?_; intro e w3 hq
  obtain ⟨v, l', R, t1, t2, rfl, hsame, hT3⟩ := hq
  have hv := hT3.val
  subst hv
  obtain rfl := hsame
  have hb3 := hT3.below
  have hs3 := hb3.size
  have hO3 := (hb3.block w.heap.size (by have := HZ2.out; omega)).trans HO2.out
  have HP3 := Lib.hid ((hb3.block (w.heap.size + 1) (by have := HZ2.out; omega)).trans HP2.out)
  have hsz3 : w.heap.size + 2 ≤ w3.heap.size := by have := HZ2.out; omega
  have f0 := Lib.frozen_of_heap hO3 0
  have q0 : w3.cell? ⟨w.heap.size, 0, none⟩ = some (.slice po r.refs.length pc) := by rw [Lib.cell_of_heap hO3]; rfl
  have q2 : w3.cell? ⟨w.heap.size, 2, none⟩ = some (.slice bo r.blocks.length bc) := by rw [Lib.cell_of_heap hO3]; rfl
  have hp4 := put_cell (o := 0) (v := .slice (some ⟨W2.heap.size, 0, none⟩) r.refs.length (r.refs.length + 2)) hO3
  have HT3 := Lib.hid hT3
  have HB3 := Lib.hid (HB2.out.trans (hb3.mono (by have := HZ2.out; omega)))
  have HPC := Lib.hid hp4
  clear hT3 hb3 hO3 p0 hp4
  go_wp2_with fail
  obtain ⟨w4, hw4⟩ : ∃ u, u = w3.setCell ⟨w.heap.size, 0, none⟩ (.slice (some ⟨W2.heap.size, 0, none⟩) r.refs.length (r.refs.length + 2)) := ⟨_, rfl⟩
  have hp4 := HPC.out
  rw [← hw4] at hp4 ⊢
  have hb4 : Below w.heap.size w w4 := hp4.below HB3.out (Nat.le_refl _)
  have HB4 := Lib.hid hb4
  have hO4 : w4.heap[w.heap.size]? = some (.cells #[.slice (some ⟨W2.heap.size, 0, none⟩) r.refs.length (r.refs.length + 2), .int .i64 r.sites, .slice bo r.blocks.length bc] 45 (0, 0)) := hp4.at_b
  have HO4 := Lib.hid hO4
  have hlt4 : w.heap.size + 1 < w4.heap.size := by rw [hp4.size]; omega
  have HS34 := Lib.hid hp4.size
  have HP4 := Lib.hid ((hp4.rest (w.heap.size + 1) (by omega)).trans HP3.out)
  have HK4 := Lib.hid (Kept.of_put (lo := W2.heap.size) hp4 (by have := HZ2.out; omega))
  have hkb := HKB.out w4 hb4
  rw [HEB.out] at hkb
  have HKB2 := Lib.hid hkb
  clear hp4 hb4 hO4 hkb hw4 HPC q0 q2 f0
  refine HKB2.out.mono ?_; intro e w5 hq
  obtain ⟨v5, b', R5, t51, t52, rfl, ⟨hbs, hord⟩, hT5⟩ := hq
  have hv5 := hT5.val
  subst hv5
  have hb5 := hT5.below
  have hs5 := hb5.size
  have hO5 := (hb5.block w.heap.size (by omega)).trans HO4.out
  have HP5 := Lib.hid ((hb5.block (w.heap.size + 1) (by omega)).trans HP4.out)
  have f2 := Lib.frozen_of_heap hO5 2
  have q0 : w5.cell? ⟨w.heap.size, 0, none⟩ = some (.slice (some ⟨W2.heap.size, 0, none⟩) r.refs.length (r.refs.length + 2)) := by rw [Lib.cell_of_heap hO5]; rfl
  have q1 : w5.cell? ⟨w.heap.size, 1, none⟩ = some (.int .i64 r.sites) := by rw [Lib.cell_of_heap hO5]; rfl
  have q2 : w5.cell? ⟨w.heap.size, 2, none⟩ = some (.slice bo r.blocks.length bc) := by rw [Lib.cell_of_heap hO5]; rfl
  have HT5 := Lib.hid hT5
  have HBS := Lib.hid hbs
  have HORD := Lib.hid hord
  have HB5 := Lib.hid (HB4.out.trans (hb5.mono (by omega)))
  have HK5 := Lib.hid (HK4.out.trans (Kept.of_below hb5))
  have HP6 := Lib.hid (show (w5.setCell ⟨w.heap.size, 2, none⟩ (.slice (some ⟨w4.heap.size, 0, none⟩) r.blocks.length (r.blocks.length + 2))).heap[w.heap.size + 1]? = some (.cells #[.slice none 0 0, .int .i64 0, .slice none 0 0] 45 (0, 0)) from (Below.heap_setCell _ _ _ _ (by show w.heap.size + 1 ≠ w.heap.size; omega)).trans HP5.out)
  clear hT5 hbs hb5 hO5 hord
  go_wp2_with (refine wpList_put rfl 45 (Operand.tmp 2) (Operand.tmp 11) rfl (w.heap.size + 1) 45 _ #[.slice (some ⟨W2.heap.size, 0, none⟩) r.refs.length (r.refs.length + 2), .int .i64 r.sites, .slice (some ⟨w4.heap.size, 0, none⟩) r.blocks.length (r.blocks.length + 2)] rfl rfl HP6.out rfl (by kernel_rfl) (by simp [Value.oneCell']) ?_)
  intro w7 hp7
  have HP := Lib.hid hp7
  clear hp7
  go_wp2_with fail
  refine bodyPost_ret (v := .agg #[.slice (some ⟨W2.heap.size, 0, none⟩) r.refs.length (r.refs.length + 2), .int .i64 r.sites, .slice (some ⟨w4.heap.size, 0, none⟩) r.blocks.length (r.blocks.length + 2)]) (results_cell_row rfl _ _ (w.heap.size + 1) 45 _ (0, 0) _ rfl HP.out.at_b Try.underlying45 rfl (by kernel_rfl)) rfl ?_
  have hz2 := HZ2.out
  have hz7 : w7.heap.size = w5.heap.size := by rw [HP.out.size]; simp [World.setCell]
  have hlb := HT5.out.len
  have h34 := HS34.out
  have hlt3 := HT3.out.lt
  have hlt5 := HT5.out.lt
  refine ⟨⟨.slice (some ⟨W2.heap.size, 0, none⟩) r.refs.length (r.refs.length + 2), r.refs, r.sites, .slice (some ⟨w4.heap.size, 0, none⟩) r.blocks.length (r.blocks.length + 2), b'⟩, rfl, ?_, ?_, ?_, ?_, ?_⟩
  · unfold Gr.bare; rw [HBS.out]
  · exact HP.out.below ((HB5.out).setCell (show w.heap.size ≤ w.heap.size from Nat.le_refl _) _) (by omega)
  · intro u hu
    have hu5 : ∀ g, W2.heap.size ≤ g → g < w5.heap.size → u.heap[g]? = w5.heap[g]? := fun g h1 h2 => (hu g (by omega) (by rw [hz7]; exact h2)).trans ((HP.out.rest g (by omega)).trans (Below.heap_setCell _ _ _ _ (by show g ≠ w.heap.size; omega)))
    have hu3 : ∀ g, W2.heap.size ≤ g → g < w3.heap.size → u.heap[g]? = w3.heap[g]? := fun g h1 h2 => (hu5 g h1 (by have := HK5.out.1; omega)).trans (HK5.out.2 g h1 h2)
    have hu4 : ∀ g, w4.heap.size ≤ g → g < w5.heap.size → u.heap[g]? = w5.heap[g]? := fun g h1 h2 => hu5 g (by have := HS34.out; omega) h2
    rw [hz7]
    have m1 := HT3.out.m1
    have m2 := HT3.out.m2
    have n1 := HT5.out.m1
    have n2 := HT5.out.m2
    simp only [mkB, decide_true, Nat.succ_ne_self, decide_false] at m1 m2
    unfold mkK at n1 n2
    refine ⟨⟨W2.heap.size, R, rfl, by have := HK5.out.1; omega, (hu3 _ (Nat.le_refl _) hlt3).trans HT3.out.row, by rw [HT3.out.list, m1, m2]⟩, HIN.out.sites, ⟨w4.heap.size, R5, by simp only [hlb], hlt5, (hu4 _ (Nat.le_refl _) hlt5).trans HT5.out.row, by rw [HT5.out.list, n1, n2, hlb]⟩, fun a ha => HT5.out.all a ha u hu4⟩
  · simp only [Gr.id, ibOf]
    have hK5 := HK5.out.1
    refine List.Pairwise.cons (fun x hx => ?_) (List.Pairwise.cons (fun x hx => ?_) HORD.out.1)
    · rcases List.mem_cons.1 hx with rfl | hx
      · show W2.heap.size < w4.heap.size; omega
      · have := HORD.out.2 x hx
        show W2.heap.size < x; omega
    · exact HORD.out.2 x hx
  · intro x hx
    simp only [Gr.id, ibOf, List.mem_cons] at hx
    rcases hx with rfl | rfl | hx
    · show w.heap.size ≤ W2.heap.size; omega
    · show w.heap.size ≤ w4.heap.size; omega
    · have := HORD.out.2 x hx; omega
set_option maxHeartbeats 16000000 in
theorem twinGraphs_any (l : List Gr) (B : Nat) (v : Value) (w : World) (hL : LiesG Gr.cells 3 w B v l) (hI : ∀ a ∈ l, GIn w B a) (hBw : B ≤ w.heap.size) (hsm : l.length ≤ 262144) (hsz : ∀ a ∈ l, a.refs.length ≤ 262144 ∧ a.blocks.length ≤ 262144 ∧ ∀ b ∈ a.blocks, b.ins.length ≤ 262144) :
    Calls Try.prog 20 #[v] w (TwE Gr.cells 45 3 KG l.length mkG (fun l' => Gr.bares l' = Gr.bares l ∧ (l'.flatMap Gr.id).Pairwise (· < ·) ∧ ∀ x ∈ l'.flatMap Gr.id, w.heap.size < x) w) := by
  have hroom := hL.room
  obtain ⟨ao, cap, rfl, hlen, hgo⟩ := hL.form
  obtain ⟨N, hN⟩ : ∃ N, N = l.length := ⟨_, rfl⟩
  have hNs : N ≤ 262144 := by rw [hN]; exact hsm
  obtain ⟨i0, hi, hz0, hz1, hz2⟩ := info_parts twiG
  obtain ⟨M, hM⟩ : ∃ M, M = madeCells (Value.cells (.agg #[.slice none 0 0, .int .i64 0, .slice none 0 0])) (((N : Int) + 2).toNat * i0.size) := ⟨_, rfl⟩
  have hMs : M.size = (N + 2) * 3 := by rw [hM, size_madeCells, hz1]; congr 1
  have hmk : (Instr.makeSlice 22 (.int .i64 (N : Int)) (.int .i64 ((N : Int) + 2))).run Try.prog w = .ok (.slice (some ⟨w.heap.size, 0, none⟩) N (N + 2)) (w.alloc (.cells M 45)) := by
    have h := run_make (P := Try.prog) w 22 45 i0 (.agg #[.slice none 0 0, .int .i64 0, .slice none 0 0]) Try.underlying22 hi hz0 .i64 .i64 (N : Int) ((N : Int) + 2) (by omega) (by omega) (by rw [hz2]; omega) (by omega)
    rw [← hM, show ((N : Int) + 2).toNat = N + 2 by omega] at h
    simpa using h
  obtain ⟨W0, hW0⟩ : ∃ W0, W0 = w.alloc (.cells M 45) := ⟨_, rfl⟩
  have hb0 : Below w.heap.size w W0 := by rw [hW0]; exact below_box w _
  have hlt0 : w.heap.size < W0.heap.size := by rw [hW0]; simp
  have hS0 : TwS Gr.cells 45 3 KG w.heap.size N 0 w W0 [] M M.toList :=
    ⟨rfl, hb0, hlt0, by rw [hW0]; exact (MapKept.heap_alloc _ _).1, by simp, by rw [Array.length_toList, hMs]; rfl, fun a ha => by cases ha⟩
  rw [← hN] at hlen hgo hL ⊢
  have HS0 := Lib.hid hS0
  have HW0 := Lib.hid hW0
  have HL := Lib.hid hL
  have HIN := Lib.hid hI
  have HG := Lib.hid hgo
  have HN := Lib.hid hN
  have HSZ := Lib.hid (hsz)
  clear hi hz0 hz1 hz2 hM hMs hb0 hS0 hW0 hL hI hgo hN hroom
  rw [HW0.out.symm] at hmk
  go_enter Try.func20, Try.ntmps20
  go_wp2_with fail
  go_loopw [15] (fun i wr => ∃ k : Nat, k ≤ N ∧ i = .int .i64 k ∧ Hid (∃ l' R rest, Gr.bares l' = Gr.bares (l.take k) ∧ ((l'.flatMap Gr.id).Pairwise (· < ·) ∧ ∀ x ∈ l'.flatMap Gr.id, w.heap.size < x) ∧ TwS Gr.cells 45 3 KG w.heap.size N k w wr l' R rest)) (fun i _ => N - (intOf i).toNat)
  case atStart => exact ⟨0, by omega, rfl, Lib.hid ⟨[], M, M.toList, by rw [List.take_zero], ⟨List.Pairwise.nil, fun x hx => by cases hx⟩, HS0.out⟩⟩
  case round =>
    obtain ⟨k, hkN, rfl, HR⟩ := hrel
    obtain ⟨l', R, rest, hsame, hord, hS⟩ := HR.out
    clear HR
    have hbw := hS.below
    have hsw := hbw.size
    have hlb := hS.lt
    by_cases hlt2 : k < N
    · have hpx : k < l.length := by rw [← HN.out]; exact hlt2
      obtain ⟨g, off, rfl, hg⟩ := HG.out (by omega)
      have hat := ((HL.out.below (hbw.mono hBw)).at rfl k hpx).2
      have hma := List.getElem_mem hpx
      have hIa := (HIN.out _ hma).keeps (hbw.mono hBw)
      have htk : l.take (k + 1) = l.take k ++ [l[k]] := List.take_succ_eq_append_getElem hpx
      have hPa := twinGraph_any l[k] B wr hIa (by omega) (HSZ.out l[k] hma)
      have p0 : wr.cell? ⟨g, off + k * 3, none⟩ = some l[k].rv := hat 0 _ rfl
      have p1 : wr.cell? ⟨g, off + k * 3 + 1, none⟩ = some (.int .i64 l[k].sites) := hat 1 _ rfl
      have p2 : wr.cell? ⟨g, off + k * 3 + 2, none⟩ = some l[k].bv := hat 2 _ rfl
      generalize l[k] = a at *
      obtain ⟨fo, fc, ef, -⟩ := hIa.rlies.form
      obtain ⟨eo, ec, ee, -⟩ := hIa.blies.form
      rw [ef] at p0 hPa
      rw [ee] at p2 hPa
      have HPA := Lib.hid hPa
      have HS := Lib.hid hS
      have HTK := Lib.hid htk
      have HSAME := Lib.hid hsame
      have HORD := Lib.hid hord
      have hgs : g < wr.heap.size := by omega
      clear hat hma hIa hPa htk hS hsame hbw hord ef ee
      go_wp2_with fail
      refine HPA.out.mono ?_; intro e w1 hq
      obtain ⟨y, rfl, hy, hb1, hn1, hyo, hyl⟩ := hq
      obtain ⟨⟨yb, yR, ey, -⟩, -, ⟨zb, zR, ez, -⟩, -⟩ := id hn1.here
      rw [ey, ez]
      have HEY := Lib.hid (show y.cells = [.slice (some ⟨yb, 0, none⟩) y.refs.length (y.refs.length + 2), .int .i64 y.sites, .slice (some ⟨zb, 0, none⟩) y.blocks.length (y.blocks.length + 2)] by unfold Gr.cells; rw [ey, ez])
      clear ey ez p0 p1 p2
      have HO1 := Lib.hid ((hb1.block _ hlb).trans HS.out.row)
      have HRS := Lib.hid (show k * 3 + 3 ≤ R.size by rw [HS.out.rsize gcells_len (by omega)]; omega)
      have HB1 := Lib.hid hb1
      have HN1 := Lib.hid hn1
      have HY := Lib.hid hy
      have HORD2 := Lib.hid (show ((l' ++ [y]).flatMap Gr.id).Pairwise (· < ·) ∧ ∀ x ∈ (l' ++ [y]).flatMap Gr.id, w.heap.size < x from
        order_step hlb HORD.out (fun a ha => Gr_id_lt (HS.out.new a ha).here) hyo hyl)
      clear hb1 hn1 hy hyo hyl
      obtain ⟨NEW, hNEW⟩ : ∃ A : Array Value, A = R.extract 0 (k * 3) ++ (Gr.cells y).toArray ++ R.extract (k * 3 + (Gr.cells y).toArray.size) R.size := ⟨_, rfl⟩
      have HNEW := Lib.hid hNEW
      clear hNEW
      go_wp2_with (refine wpList_put_at rfl 45 (Operand.tmp 25) (Operand.tmp 24) rfl w.heap.size (k * 3) 45 R #[.slice (some ⟨yb, 0, none⟩) y.refs.length (y.refs.length + 2), .int .i64 y.sites, .slice (some ⟨zb, 0, none⟩) y.blocks.length (y.blocks.length + 2)] NEW rfl rfl HO1.out HRS.out (by kernel_rfl) (by simp [Value.oneCell']) (by rw [HNEW.out, HEY.out]) ?_)
      intro w2 hp
      obtain ⟨rest2, hst⟩ := HS.out.step gcells_len (fun v B B2 a h q => KG.up h q) (by omega) HB1.out HN1.out HNEW.out hp
      have HST := Lib.hid hst
      clear hst hp
      go_wp2_with fail
      go_roundw
      case rel => exact ⟨k + 1, by omega, by go_num, Lib.hid ⟨_, _, rest2, by rw [Gr_bares_append, HSAME.out, HTK.out, Gr_bares_append, Gr_bares_one, Gr_bares_one, HY.out], HORD2.out, HST.out⟩⟩
      case measure => simp [intOf]; omega
    · obtain rfl : N = k := by omega
      have HM := Lib.hid hS.marks
      have hsame2 : Gr.bares l' = Gr.bares l := by rw [hsame, List.take_of_length_le (by rw [← HN.out]; exact Nat.le_refl _)]
      have HSAME := Lib.hid hsame2
      have HORD := Lib.hid hord
      clear hS hsame hsame2 hbw hord
      have HM1 := HM
      clear HM
      obtain ⟨R1, hR1⟩ : ∃ A, A = R := ⟨_, rfl⟩
      rw [← hR1] at HM1
      clear hR1
      have HK1 := Lib.hid (fun w => markGr_any N (by omega) w)
      have HK2 := Lib.hid (fun w => (show ((N + 1 : Nat) : Int) = (N : Int) + 1 by push_cast; rfl) ▸ markGr_any (N + 1) (by omega) w)
      go_wp2_with fail
      refine wp_loop_rounds 3 ?_
      rw [rounds_succ]
      go_wp2_with fail
      refine (HK1.out wr).mono ?_; rintro e w1 ⟨rfl, hb1⟩
      have HO1 := Lib.hid ((hb1.block _ HM1.out.lt).trans HM1.out.row)
      have HR1 := Lib.hid (show N * 3 + (markGr N).toArray.size ≤ R1.size by rw [HM1.out.rsize gcells_len (by omega), List.size_toArray, markGr_len]; omega)
      have HB1 := Lib.hid hb1
      obtain ⟨NEW1, hNEW1⟩ : ∃ A : Array Value, A = R1.extract 0 ((N + 0) * 3) ++ (markGr N).toArray ++ R1.extract ((N + 0) * 3 + (markGr N).toArray.size) R1.size := ⟨_, rfl⟩
      have HNEW1 := Lib.hid hNEW1
      clear hNEW1 hb1
      go_wp2_with (refine wpList_put_at rfl 45 (Operand.tmp 44) (Operand.tmp 43) rfl w.heap.size (N * 3) 45 R1 (markGr N).toArray NEW1 rfl rfl HO1.out HR1.out (by kernel_rfl) (markGr_one N) HNEW1.out ?_)
      intro w2 hp2
      have HM2 := Lib.hid (HM1.out.step gcells_len (fun v B B2 a h q => KG.up h q) (by omega) (markGr_len N) HB1.out HNEW1.out hp2)
      clear hp2
      go_wp2_with fail
      obtain ⟨R2, hR2⟩ : ∃ A, A = NEW1 := ⟨_, rfl⟩
      rw [← hR2] at HM2
      clear hR2
      rw [rounds_succ]
      go_wp2_with fail
      refine (HK2.out w2).mono ?_; rintro e w3 ⟨rfl, hb3⟩
      have HO2 := Lib.hid ((hb3.block _ HM2.out.lt).trans HM2.out.row)
      have HR2 := Lib.hid (show (N + 1) * 3 + (markGr (N + 1)).toArray.size ≤ R2.size by rw [HM2.out.rsize gcells_len (by omega), List.size_toArray, markGr_len]; omega)
      have HB2 := Lib.hid hb3
      obtain ⟨NEW2, hNEW2⟩ : ∃ A : Array Value, A = R2.extract 0 ((N + 1) * 3) ++ (markGr (N + 1)).toArray ++ R2.extract ((N + 1) * 3 + (markGr (N + 1)).toArray.size) R2.size := ⟨_, rfl⟩
      have HNEW2 := Lib.hid hNEW2
      clear hNEW2 hb3
      go_wp2_with (refine wpList_put_at rfl 45 (Operand.tmp 44) (Operand.tmp 43) rfl w.heap.size ((N + 1) * 3) 45 R2 (markGr (N + 1)).toArray NEW2 rfl rfl HO2.out HR2.out (by kernel_rfl) (markGr_one (N + 1)) HNEW2.out ?_)
      intro w4 hp4
      have HM3 := Lib.hid (HM2.out.step gcells_len (fun v B B2 a h q => KG.up h q) (by omega) (markGr_len (N + 1)) HB2.out HNEW2.out hp4)
      clear hp4
      go_wp2_with fail
      rw [rounds_succ]
      go_wp2_with fail
      go_ret
      exact ⟨_, l', NEW2, markGr N, markGr (N + 1), rfl, ⟨HSAME.out, HORD.out⟩, HM3.out.done (markGr_len N) (markGr_len (N + 1)) rfl rfl⟩
end Go.Proofs.Ytijciojipcgiaaa
namespace Go.Proofs.Ytijciojipcgiaaa
open Go.RowKit Go.Joins
set_option maxRecDepth 100000
attribute [local go_sem ↓] bld_eq bls_eq
/-- A copied program of graphs: its threads' row, and all that they hang on. -/
structure KC (v : World) (B tb : Nat) (l : List Gr) : Prop where
  row : ∃ R, v.heap[tb]? = some (.cells R 45 (0, 0)) ∧ R.toList = l.flatMap Gr.cells ++ (markGr l.length ++ markGr (l.length + 1))
  lt : tb < B
  each : ∀ a ∈ l, KG v B a
  ord : (l.flatMap Gr.id).Pairwise (· < ·)
  up : ∀ x ∈ l.flatMap Gr.id, tb < x
def TwCE (c : Cd) (w : World) (e : Ending) (w' : World) : Prop := ∃ tb l', e = .returned (.agg #[.int .i64 c.words, .slice (some ⟨tb, 0, none⟩) l'.length (l'.length + 2)]) ∧ Gr.bares l' = Gr.bares c.threads ∧ Below w.heap.size w w' ∧ w.heap.size ≤ tb ∧ NewW tb w' fun v => KC v w'.heap.size tb l'
set_option maxHeartbeats 16000000 in
theorem twinCode_any (c : Cd) (B : Nat) (w : World) (hI : CIn w B c) (hBw : B ≤ w.heap.size) (hsz : c.threads.length ≤ 262144 ∧ ∀ a ∈ c.threads, a.refs.length ≤ 262144 ∧ a.blocks.length ≤ 262144 ∧ ∀ b ∈ a.blocks, b.ins.length ≤ 262144) :
    Calls Try.prog 10 #[.agg #[.int .i64 c.words, c.tv]] w (TwCE c w) := by
  obtain ⟨po, pc, ep, -⟩ := hI.tlies.form
  obtain ⟨W2, hW2⟩ : ∃ W2, W2 = (w.alloc (.cells #[.int .i64 c.words, .slice po c.threads.length pc] 24)).alloc (.cells #[.int .i64 0, .slice none 0 0] 24) := ⟨_, rfl⟩
  have hb1 := below_box w (.cells #[.int .i64 c.words, .slice po c.threads.length pc] 24)
  have hb2 : Below w.heap.size w W2 := by rw [hW2]; exact hb1.alloc (by simp) _
  have hz2 : W2.heap.size = w.heap.size + 2 := by rw [hW2]; simp
  have hO2 : W2.heap[w.heap.size]? = some (.cells #[.int .i64 c.words, .slice po c.threads.length pc] 24 (0, 0)) := by
    rw [hW2, Below.heap_alloc _ _ _ (by simp)]; exact (MapKept.heap_alloc _ _).1
  have hP2 : W2.heap[w.heap.size + 1]? = some (.cells #[.int .i64 0, .slice none 0 0] 24 (0, 0)) := by
    rw [hW2]; have := (MapKept.heap_alloc (w.alloc (.cells #[.int .i64 c.words, .slice po c.threads.length pc] 24)) (.cells #[.int .i64 0, .slice none 0 0] 24)).1; simpa using this
  have hK := twinGraphs_any c.threads B c.tv W2 (hI.tlies.below (hb2.mono hBw)) (fun a ha => (hI.threads a ha).keeps (hb2.mono hBw)) (by omega) hsz.1 hsz.2
  have p1 : W2.cell? ⟨w.heap.size, 1, none⟩ = some (.slice po c.threads.length pc) := by rw [Lib.cell_of_heap hO2]; rfl
  rw [ep] at hK ⊢
  have HZ2 := Lib.hid hz2
  rw [hW2] at p1
  have HK := Lib.hid hK
  have HW2 := Lib.hid hW2
  have HB2 := Lib.hid hb2
  have HO2 := Lib.hid hO2
  have HP2 := Lib.hid hP2
  clear hK hW2 hb1 hb2 hO2 hP2 hz2 hI hsz ep
  go_enter Try.func10, Try.ntmps10
  go_wp2_with fail
  rw [← HW2.out]
  refine HK.out.mono ?_; intro e w3 hq
  obtain ⟨v, l', R, t1, t2, rfl, ⟨hsame, hord⟩, hT3⟩ := hq
  have hv := hT3.val
  subst hv
  have hb3 := hT3.below
  have hs3 := hb3.size
  have hO3 := (hb3.block w.heap.size (by have := HZ2.out; omega)).trans HO2.out
  have HP3 := Lib.hid ((hb3.block (w.heap.size + 1) (by have := HZ2.out; omega)).trans HP2.out)
  have hsz3 : w.heap.size + 2 ≤ w3.heap.size := by have := HZ2.out; omega
  have f1 := Lib.frozen_of_heap hO3 1
  have q0 : w3.cell? ⟨w.heap.size, 0, none⟩ = some (.int .i64 c.words) := by rw [Lib.cell_of_heap hO3]; rfl
  have q1 : w3.cell? ⟨w.heap.size, 1, none⟩ = some (.slice po c.threads.length pc) := by rw [Lib.cell_of_heap hO3]; rfl
  have HT3 := Lib.hid hT3
  have HSAME := Lib.hid hsame
  have HORD := Lib.hid hord
  have HB3 := Lib.hid (HB2.out.trans (hb3.mono (by have := HZ2.out; omega)))
  have HP4 := Lib.hid (show (w3.setCell ⟨w.heap.size, 1, none⟩ (.slice (some ⟨W2.heap.size, 0, none⟩) c.threads.length (c.threads.length + 2))).heap[w.heap.size + 1]? = some (.cells #[.int .i64 0, .slice none 0 0] 24 (0, 0)) from (Below.heap_setCell _ _ _ _ (by show w.heap.size + 1 ≠ w.heap.size; omega)).trans HP3.out)
  clear hT3 hb3 hO3 p1 hsame hord
  go_wp2_with (refine wpList_put rfl 24 (Operand.tmp 2) (Operand.tmp 7) rfl (w.heap.size + 1) 24 _ #[.int .i64 c.words, .slice (some ⟨W2.heap.size, 0, none⟩) c.threads.length (c.threads.length + 2)] rfl rfl HP4.out rfl (by kernel_rfl) (by simp [Value.oneCell']) ?_)
  intro w5 hp5
  have HP := Lib.hid hp5
  clear hp5
  go_wp2_with fail
  refine bodyPost_ret (v := .agg #[.int .i64 c.words, .slice (some ⟨W2.heap.size, 0, none⟩) c.threads.length (c.threads.length + 2)]) (results_cell_row rfl _ _ (w.heap.size + 1) 24 _ (0, 0) _ rfl HP.out.at_b Try.underlying24 rfl (by kernel_rfl)) rfl ?_
  have hz2 := HZ2.out
  have hz5 : w5.heap.size = w3.heap.size := by rw [HP.out.size]; simp [World.setCell]
  have hlen := HT3.out.len
  have hlt3 := HT3.out.lt
  refine ⟨W2.heap.size, l', by rw [hlen], HSAME.out, ?_, by omega, ?_⟩
  · exact HP.out.below ((HB3.out).setCell (show w.heap.size ≤ w.heap.size from Nat.le_refl _) _) (by omega)
  · intro u hu
    have hu2 : ∀ g, W2.heap.size ≤ g → g < w3.heap.size → u.heap[g]? = w3.heap[g]? := fun g h1 h2 => (hu g h1 (by rw [hz5]; exact h2)).trans ((HP.out.rest g (by omega)).trans (Below.heap_setCell _ _ _ _ (by show g ≠ w.heap.size; omega)))
    rw [hz5]
    have m1 := HT3.out.m1
    have m2 := HT3.out.m2
    unfold mkG at m1 m2
    exact ⟨⟨R, (hu2 _ (Nat.le_refl _) hlt3).trans HT3.out.row, by rw [HT3.out.list, m1, m2, hlen]⟩, hlt3, fun a ha => HT3.out.all a ha u hu2, HORD.out.1, HORD.out.2⟩
end Go.Proofs.Ytijciojipcgiaaa
