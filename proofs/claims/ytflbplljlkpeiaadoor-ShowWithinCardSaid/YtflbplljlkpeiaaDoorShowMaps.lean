/- The two maps of the show layer: what a map holds that is made by a literal and asked by small numbers; what the two functions that make them answer. -/
import Derived.Test.YtflbplljlkpeiaaDoorRows
import Derived.Test.YtflbplljlkpeiaaDoorShowTree
import Derived.Carry
import Derived.MapKept
import Derived.OwnWalk
import Derived.WalkKit
import Derived.WalkSpells
import Derived.WalkLawsBesides
import Derived.Lib.Hide
namespace Go.Proofs.YtflbplljlkpeiaaDoor
open Go.RowKit

theorem below_box (w : World) (o : Obj) : Below w.heap.size w (w.alloc o) := (Below.refl _ _).alloc (Nat.le_refl _) o

/-- The entries of a map that has got these keys, one behind the other. -/
def ents : Nat → List (Int × Value) → List MapEntry
  | _, [] => []
  | n, (k, v) :: r => ⟨.int .u8 k, v, n⟩ :: ents (n + 1) r
theorem ents_snoc (k : Int) (v : Value) : ∀ (l : List (Int × Value)) (n : Nat), ents n (l ++ [(k, v)]) = ents n l ++ [⟨.int .u8 k, v, n + l.length⟩]
  | [], n => rfl
  | (k0, v0) :: r, n => by
    show _ :: ents (n + 1) (r ++ [(k, v)]) = _
    rw [ents_snoc k v r (n + 1)]
    show _ :: (_ ++ [_]) = (_ :: ents (n + 1) r) ++ [_]
    rw [List.cons_append, show n + 1 + r.length = n + ((k0, v0) :: r).length by simp; omega]

/-- What stands under a key. -/
def lookI (k : Int) : List (Int × Value) → Option Value
  | [] => none
  | (k0, v) :: r => if k = k0 then some v else lookI k r

theorem find_ents (k : Int) : ∀ (l : List (Int × Value)) (n i : Nat), ∃ o, Instr.findNow (.int .u8) (.int .u8 k) (ents n l) i = some o ∧ o.map (·.2) = lookI k l
  | [], n, i => ⟨none, rfl, rfl⟩
  | (k0, v) :: r, n, i => by
    by_cases h : k = k0
    · exact ⟨some (i, v), by simp [ents, Instr.findNow, Instr.sameNow, h], by simp [lookI, h]⟩
    · obtain ⟨o, h1, h2⟩ := find_ents k r (n + 1) (i + 1)
      have hb : (k == k0) = false := beq_eq_false_iff_ne.2 h
      exact ⟨o, by simp [ents, Instr.findNow, Instr.sameNow, hb]; exact h1, by simp only [lookI, if_neg h]; exact h2⟩

/-- Block b is a map that holds this, key by key. -/
def IsMap (w : World) (b : Nat) (l : List (Int × Value)) : Prop := ∃ es clock, w.heap[b]? = some (.map es clock) ∧ es.toList = ents 0 l ∧ clock = l.length
theorem IsMap.lt {w : World} {b : Nat} {l : List (Int × Value)} (h : IsMap w b l) : b < w.heap.size := by
  obtain ⟨es, clock, hb, _⟩ := h
  exact (Array.getElem?_eq_some_iff.1 hb).1
theorem IsMap.of {w w' : World} {b : Nat} {l : List (Int × Value)} (h : IsMap w b l) (e : w'.heap[b]? = w.heap[b]?) : IsMap w' b l := by
  obtain ⟨es, clock, hb, r⟩ := h
  exact ⟨es, clock, e.trans hb, r⟩
theorem IsMap.made (w : World) : IsMap (w.alloc (.map #[] 0)) w.heap.size [] := ⟨#[], 0, (MapKept.heap_alloc w _).1, rfl, rfl⟩

section
variable {P : Program} {t kt et : TypeId}

theorem run_look (ht : P.underlying t = some (.map kt et)) (hk : P.underlying kt = some (.int .u8)) {w : World} {b : Nat} {l : List (Int × Value)} (h : IsMap w b l) (c : Bool) (k : Int) (v : Value) (hv : lookI k l = some v) :
    (Instr.lookup t (.map (some b)) (.int .u8 k) c).run P w = .ok (if c then .tuple #[v, .bool true] else v) w := by
  obtain ⟨es, clock, hb, he, _⟩ := h
  obtain ⟨o, h1, h2⟩ := find_ents k l 0 0
  rw [hv] at h2
  obtain ⟨⟨i, v'⟩, rfl, rfl⟩ := Option.map_eq_some_iff.1 h2
  have hf := MapKept.run_findKey (P := P) (w := w) hk h1
  have hc := MapKept.run_checkKey (P := P) (w := w) (k := .int .u8 k) hk (by trivial) es.isEmpty 9999
  rw [← he] at hf
  simp [Instr.lookup, run_underlying ht, MapKept.run_getObj_map hb, hc, hf, Result.andThen]

theorem run_look_none (ht : P.underlying t = some (.map kt et)) (hk : P.underlying kt = some (.int .u8)) {w : World} {b : Nat} {l : List (Int × Value)} (h : IsMap w b l) (c : Bool) (k : Int) (z : Value) (hz : (zeroValue et).run P w = .ok z w) (hv : lookI k l = none) :
    (Instr.lookup t (.map (some b)) (.int .u8 k) c).run P w = .ok (if c then .tuple #[z, .bool false] else z) w := by
  obtain ⟨es, clock, hb, he, _⟩ := h
  obtain ⟨o, h1, h2⟩ := find_ents k l 0 0
  rw [hv] at h2
  obtain rfl := Option.map_eq_none_iff.1 h2
  have hf := MapKept.run_findKey (P := P) (w := w) hk h1
  have hc := MapKept.run_checkKey (P := P) (w := w) (k := .int .u8 k) hk (by trivial) es.isEmpty 9999
  rw [← he] at hf
  simp [Instr.lookup, run_underlying ht, MapKept.run_getObj_map hb, hc, hf, hz, Result.andThen]

theorem run_put (ht : P.underlying t = some (.map kt et)) (hk : P.underlying kt = some (.int .u8)) {w : World} {b : Nat} {l : List (Int × Value)} (h : IsMap w b l) (k : Int) (v : Value) (hv : lookI k l = none) :
    ∃ w', (Instr.mapUpdate t (.map (some b)) (.int .u8 k) v).run P w = .ok () w' ∧ IsMap w' b (l ++ [(k, v)]) ∧ w.grownBy w' (some b) := by
  have hlt := h.lt
  obtain ⟨es, clock, hb, he, hcl⟩ := h
  obtain ⟨o, h1, h2⟩ := find_ents k l 0 0
  rw [hv] at h2
  obtain rfl := Option.map_eq_none_iff.1 h2
  have hf := MapKept.run_findKey (P := P) (w := w) hk h1
  have hc := MapKept.run_checkKey (P := P) (w := w) (k := .int .u8 k) hk (by trivial) false 9999
  rw [← he] at hf
  refine ⟨{ w with heap := w.heap.setIfInBounds b (.map (es.push ⟨.int .u8 k, v, clock⟩) (clock + 1)) }, ?_, ⟨es.push ⟨.int .u8 k, v, clock⟩, clock + 1, ?_, ?_, ?_⟩, ⟨rfl, rfl, rfl, by simp, fun i _ hi => ?_⟩⟩
  · simp [Instr.mapUpdate, run_underlying ht, MapKept.run_getObj_map hb, hc, hf, MapKept.run_setObj_map _ hb, Result.andThen]
  · simp [hlt]
  · rw [Array.toList_push, he, ents_snoc, hcl, Nat.zero_add]
  · simp [hcl]
  · simp only [Array.getElem?_setIfInBounds]
    rw [if_neg (fun e => hi (by rw [e]))]

theorem wpList_insert (w : World) {ops : Array Oper} {rest : List Oper} {o : Oper} {a : Act} {Q : Exit → Act → World → Prop}
    (hg : o.guard = none) (m x v : Operand) (hop : o.op = Op.insert t m x v) (ht : P.underlying t = some (.map kt et)) (hk : P.underlying kt = some (.int .u8)) (b : Nat) (l : List (Int × Value))
    (hm : a.eval m = .map (some b)) (h : IsMap w b l) (k : Int) (val : Value) (hx : a.eval x = .int .u8 k) (hv : a.eval v = val) (hnew : lookI k l = none)
    (hK : ∀ w', IsMap w' b (l ++ [(k, val)]) → w.grownBy w' (some b) → wpList P ops Q rest (a.put o.dst undef) w') :
    wpList P ops Q (o :: rest) a w := by
  refine wpList_plain hg fun K' hK' => ?_
  obtain ⟨w', hrun, r1, r2⟩ := run_put ht hk h k val hnew
  unfold Oper.wp
  simp [execOp, hop, hm, hx, hv, hrun, Result.andThen]
  exact hK' _ _ (hK w' r1 r2)
end

/-- The map of the expressions' kinds. -/
def kvx : List (Int × Value) := (wxs.zipIdx 1).map fun p => ((p.2 : Int), p.1.val)

theorem look_kvx (k : Int) : lookI k kvx = (wants k).map Wx.val := by
  by_cases h : 1 ≤ k ∧ k ≤ 22
  · have : k = 1 ∨ k = 2 ∨ k = 3 ∨ k = 4 ∨ k = 5 ∨ k = 6 ∨ k = 7 ∨ k = 8 ∨ k = 9 ∨ k = 10 ∨ k = 11 ∨ k = 12 ∨ k = 13 ∨ k = 14 ∨ k = 15 ∨ k = 16 ∨ k = 17 ∨ k = 18 ∨ k = 19 ∨ k = 20 ∨ k = 21 ∨ k = 22 := by omega
    rcases this with rfl | rfl | rfl | rfl | rfl | rfl | rfl | rfl | rfl | rfl | rfl | rfl | rfl | rfl | rfl | rfl | rfl | rfl | rfl | rfl | rfl | rfl <;> rfl
  · have h1 : wants k = none := by
      unfold wants
      split
      · exact List.getElem?_eq_none (by simp [wxs]; omega)
      · rfl
    rw [h1]
    simp only [kvx, wxs, List.zipIdx, List.map, lookI]
    repeat rw [if_neg (by omega)]
    rfl

/-- What a kind of statement wants: a variable, an X, a Y, a Body, an Else. -/
def swant (v : Bool) (x : Int) (y b o : Bool) : Value := .agg #[.bool v, .int .u8 x, .bool y, .bool b, .bool o]
def kvs : List (Int × Value) := [(1, swant true 1 false false false), (2, swant false 3 true false false), (3, swant false 2 false true true), (4, swant false 2 false true false),
  (5, swant false 0 false true false), (6, swant false 2 false false false), (7, swant false 1 false false false), (8, swant false 4 false false false)]

theorem uMapX : Tryd.prog.underlying 78 = some (.map 30 103) := Tryd.underlying78
theorem uMapS : Tryd.prog.underlying 90 = some (.map 54 117) := Tryd.underlying90
theorem uKindX : Tryd.prog.underlying 30 = some (.int .u8) := Tryd.underlying30
theorem uKindS : Tryd.prog.underlying 54 = some (.int .u8) := Tryd.underlying54

/-- A new map, and nothing else has changed. -/
def NewMap (l : List (Int × Value)) (w : World) (e : Ending) (w' : World) : Prop := ∃ m, e = .returned (.map (some m)) ∧ w.heap.size ≤ m ∧ IsMap w' m l ∧ Below w.heap.size w w'

set_option maxRecDepth 100000 in
set_option maxHeartbeats 4000000 in
theorem skinds_any (w : World) : Calls Tryd.prog 44 #[] w (NewMap kvs w) := by
  have hmm := @run_makeMap Tryd.prog
  have H0 := Lib.hid (IsMap.made w)
  have B0 := Lib.hid (below_box w (.map #[] 0))
  obtain ⟨w1, r1, h1, g1⟩ := run_put (P := Tryd.prog) uMapS uKindS H0.out 1 (.agg #[.bool true, .int .u8 1, .bool false, .bool false, .bool false]) (by rfl)
  have H1 := Lib.hid h1
  have B1 := Lib.hid (B0.out.grown g1 (by have := B0.out.size; skip; omega) (fun k hk => by cases hk; exact Nat.le_refl _))
  clear h1 g1 H0 B0
  obtain ⟨w2, r2, h2, g2⟩ := run_put (P := Tryd.prog) uMapS uKindS H1.out 2 (.agg #[.bool false, .int .u8 3, .bool true, .bool false, .bool false]) (by rfl)
  have H2 := Lib.hid h2
  have B2 := Lib.hid (B1.out.grown g2 (by have := B1.out.size; skip; omega) (fun k hk => by cases hk; exact Nat.le_refl _))
  clear h2 g2 H1 B1
  obtain ⟨w3, r3, h3, g3⟩ := run_put (P := Tryd.prog) uMapS uKindS H2.out 3 (.agg #[.bool false, .int .u8 2, .bool false, .bool true, .bool true]) (by rfl)
  have H3 := Lib.hid h3
  have B3 := Lib.hid (B2.out.grown g3 (by have := B2.out.size; skip; omega) (fun k hk => by cases hk; exact Nat.le_refl _))
  clear h3 g3 H2 B2
  obtain ⟨w4, r4, h4, g4⟩ := run_put (P := Tryd.prog) uMapS uKindS H3.out 4 (.agg #[.bool false, .int .u8 2, .bool false, .bool true, .bool false]) (by rfl)
  have H4 := Lib.hid h4
  have B4 := Lib.hid (B3.out.grown g4 (by have := B3.out.size; skip; omega) (fun k hk => by cases hk; exact Nat.le_refl _))
  clear h4 g4 H3 B3
  obtain ⟨w5, r5, h5, g5⟩ := run_put (P := Tryd.prog) uMapS uKindS H4.out 5 (.agg #[.bool false, .int .u8 0, .bool false, .bool true, .bool false]) (by rfl)
  have H5 := Lib.hid h5
  have B5 := Lib.hid (B4.out.grown g5 (by have := B4.out.size; skip; omega) (fun k hk => by cases hk; exact Nat.le_refl _))
  clear h5 g5 H4 B4
  obtain ⟨w6, r6, h6, g6⟩ := run_put (P := Tryd.prog) uMapS uKindS H5.out 6 (.agg #[.bool false, .int .u8 2, .bool false, .bool false, .bool false]) (by rfl)
  have H6 := Lib.hid h6
  have B6 := Lib.hid (B5.out.grown g6 (by have := B5.out.size; skip; omega) (fun k hk => by cases hk; exact Nat.le_refl _))
  clear h6 g6 H5 B5
  obtain ⟨w7, r7, h7, g7⟩ := run_put (P := Tryd.prog) uMapS uKindS H6.out 7 (.agg #[.bool false, .int .u8 1, .bool false, .bool false, .bool false]) (by rfl)
  have H7 := Lib.hid h7
  have B7 := Lib.hid (B6.out.grown g7 (by have := B6.out.size; skip; omega) (fun k hk => by cases hk; exact Nat.le_refl _))
  clear h7 g7 H6 B6
  obtain ⟨w8, r8, h8, g8⟩ := run_put (P := Tryd.prog) uMapS uKindS H7.out 8 (.agg #[.bool false, .int .u8 4, .bool false, .bool false, .bool false]) (by rfl)
  have H8 := Lib.hid h8
  have B8 := Lib.hid (B7.out.grown g8 (by have := B7.out.size; skip; omega) (fun k hk => by cases hk; exact Nat.le_refl _))
  clear h8 g8 H7 B7
  go_enter Tryd.func44, Tryd.ntmps44
  go_wp2_with fail
  go_ret
  exact ⟨w.heap.size, rfl, Nat.le_refl _, H8.out, B8.out⟩

set_option maxRecDepth 100000 in
set_option maxHeartbeats 4000000 in
theorem xkinds_any (w : World) : Calls Tryd.prog 35 #[] w (NewMap kvx w) := by
  have hmm := @run_makeMap Tryd.prog
  have H0 := Lib.hid (IsMap.made w)
  have B0 := Lib.hid (below_box w (.map #[] 0))
  obtain ⟨w1, r1, h1, g1⟩ := run_put (P := Tryd.prog) uMapX uKindX H0.out 1 (.agg #[.int .i64 0, .bool true, .bool false, .bool false, .string ⟨#[]⟩]) (by rfl)
  have H1 := Lib.hid h1
  have B1 := Lib.hid (B0.out.grown g1 (by have := B0.out.size; skip; omega) (fun k hk => by cases hk; exact Nat.le_refl _))
  clear h1 g1 H0 B0
  obtain ⟨w2, r2, h2, g2⟩ := run_put (P := Tryd.prog) uMapX uKindX H1.out 2 (.agg #[.int .i64 0, .bool false, .bool false, .bool false, .string ⟨#[]⟩]) (by rfl)
  have H2 := Lib.hid h2
  have B2 := Lib.hid (B1.out.grown g2 (by have := B1.out.size; skip; omega) (fun k hk => by cases hk; exact Nat.le_refl _))
  clear h2 g2 H1 B1
  obtain ⟨w3, r3, h3, g3⟩ := run_put (P := Tryd.prog) uMapX uKindX H2.out 3 (.agg #[.int .i64 0, .bool false, .bool true, .bool false, .string ⟨#[]⟩]) (by rfl)
  have H3 := Lib.hid h3
  have B3 := Lib.hid (B2.out.grown g3 (by have := B2.out.size; skip; omega) (fun k hk => by cases hk; exact Nat.le_refl _))
  clear h3 g3 H2 B2
  obtain ⟨w4, r4, h4, g4⟩ := run_put (P := Tryd.prog) uMapX uKindX H3.out 4 (.agg #[.int .i64 1, .bool false, .bool true, .bool false, .string ⟨#[]⟩]) (by rfl)
  have H4 := Lib.hid h4
  have B4 := Lib.hid (B3.out.grown g4 (by have := B3.out.size; skip; omega) (fun k hk => by cases hk; exact Nat.le_refl _))
  clear h4 g4 H3 B3
  obtain ⟨w5, r5, h5, g5⟩ := run_put (P := Tryd.prog) uMapX uKindX H4.out 5 (.agg #[.int .i64 2, .bool false, .bool false, .bool false, .string ⟨#[]⟩]) (by rfl)
  have H5 := Lib.hid h5
  have B5 := Lib.hid (B4.out.grown g5 (by have := B4.out.size; skip; omega) (fun k hk => by cases hk; exact Nat.le_refl _))
  clear h5 g5 H4 B4
  obtain ⟨w6, r6, h6, g6⟩ := run_put (P := Tryd.prog) uMapX uKindX H5.out 6 (.agg #[.int .i64 0, .bool false, .bool false, .bool true, .string ⟨#[]⟩]) (by rfl)
  have H6 := Lib.hid h6
  have B6 := Lib.hid (B5.out.grown g6 (by have := B5.out.size; skip; omega) (fun k hk => by cases hk; exact Nat.le_refl _))
  clear h6 g6 H5 B5
  obtain ⟨w7, r7, h7, g7⟩ := run_put (P := Tryd.prog) uMapX uKindX H6.out 7 (.agg #[.int .i64 (-1), .bool false, .bool true, .bool false, .string ⟨#[]⟩]) (by rfl)
  have H7 := Lib.hid h7
  have B7 := Lib.hid (B6.out.grown g7 (by have := B6.out.size; skip; omega) (fun k hk => by cases hk; exact Nat.le_refl _))
  clear h7 g7 H6 B6
  obtain ⟨w8, r8, h8, g8⟩ := run_put (P := Tryd.prog) uMapX uKindX H7.out 8 (.agg #[.int .i64 1, .bool false, .bool false, .bool false, .string ⟨#[]⟩]) (by rfl)
  have H8 := Lib.hid h8
  have B8 := Lib.hid (B7.out.grown g8 (by have := B7.out.size; skip; omega) (fun k hk => by cases hk; exact Nat.le_refl _))
  clear h8 g8 H7 B7
  obtain ⟨w9, r9, h9, g9⟩ := run_put (P := Tryd.prog) uMapX uKindX H8.out 9 (.agg #[.int .i64 1, .bool false, .bool false, .bool false, .string ⟨#[]⟩]) (by rfl)
  have H9 := Lib.hid h9
  have B9 := Lib.hid (B8.out.grown g9 (by have := B8.out.size; skip; omega) (fun k hk => by cases hk; exact Nat.le_refl _))
  clear h9 g9 H8 B8
  obtain ⟨w10, r10, h10, g10⟩ := run_put (P := Tryd.prog) uMapX uKindX H9.out 10 (.agg #[.int .i64 2, .bool false, .bool false, .bool false, .string ⟨#[43]⟩]) (by rfl)
  have H10 := Lib.hid h10
  have B10 := Lib.hid (B9.out.grown g10 (by have := B9.out.size; skip; omega) (fun k hk => by cases hk; exact Nat.le_refl _))
  clear h10 g10 H9 B9
  obtain ⟨w11, r11, h11, g11⟩ := run_put (P := Tryd.prog) uMapX uKindX H10.out 11 (.agg #[.int .i64 2, .bool false, .bool false, .bool false, .string ⟨#[45]⟩]) (by rfl)
  have H11 := Lib.hid h11
  have B11 := Lib.hid (B10.out.grown g11 (by have := B10.out.size; skip; omega) (fun k hk => by cases hk; exact Nat.le_refl _))
  clear h11 g11 H10 B10
  obtain ⟨w12, r12, h12, g12⟩ := run_put (P := Tryd.prog) uMapX uKindX H11.out 12 (.agg #[.int .i64 2, .bool false, .bool false, .bool false, .string ⟨#[42]⟩]) (by rfl)
  have H12 := Lib.hid h12
  have B12 := Lib.hid (B11.out.grown g12 (by have := B11.out.size; skip; omega) (fun k hk => by cases hk; exact Nat.le_refl _))
  clear h12 g12 H11 B11
  obtain ⟨w13, r13, h13, g13⟩ := run_put (P := Tryd.prog) uMapX uKindX H12.out 13 (.agg #[.int .i64 2, .bool false, .bool false, .bool false, .string ⟨#[47]⟩]) (by rfl)
  have H13 := Lib.hid h13
  have B13 := Lib.hid (B12.out.grown g13 (by have := B12.out.size; skip; omega) (fun k hk => by cases hk; exact Nat.le_refl _))
  clear h13 g13 H12 B12
  obtain ⟨w14, r14, h14, g14⟩ := run_put (P := Tryd.prog) uMapX uKindX H13.out 14 (.agg #[.int .i64 2, .bool false, .bool false, .bool false, .string ⟨#[37]⟩]) (by rfl)
  have H14 := Lib.hid h14
  have B14 := Lib.hid (B13.out.grown g14 (by have := B13.out.size; skip; omega) (fun k hk => by cases hk; exact Nat.le_refl _))
  clear h14 g14 H13 B13
  obtain ⟨w15, r15, h15, g15⟩ := run_put (P := Tryd.prog) uMapX uKindX H14.out 15 (.agg #[.int .i64 2, .bool false, .bool false, .bool false, .string ⟨#[61, 61]⟩]) (by rfl)
  have H15 := Lib.hid h15
  have B15 := Lib.hid (B14.out.grown g15 (by have := B14.out.size; skip; omega) (fun k hk => by cases hk; exact Nat.le_refl _))
  clear h15 g15 H14 B14
  obtain ⟨w16, r16, h16, g16⟩ := run_put (P := Tryd.prog) uMapX uKindX H15.out 16 (.agg #[.int .i64 2, .bool false, .bool false, .bool false, .string ⟨#[33, 61]⟩]) (by rfl)
  have H16 := Lib.hid h16
  have B16 := Lib.hid (B15.out.grown g16 (by have := B15.out.size; skip; omega) (fun k hk => by cases hk; exact Nat.le_refl _))
  clear h16 g16 H15 B15
  obtain ⟨w17, r17, h17, g17⟩ := run_put (P := Tryd.prog) uMapX uKindX H16.out 17 (.agg #[.int .i64 2, .bool false, .bool false, .bool false, .string ⟨#[60]⟩]) (by rfl)
  have H17 := Lib.hid h17
  have B17 := Lib.hid (B16.out.grown g17 (by have := B16.out.size; skip; omega) (fun k hk => by cases hk; exact Nat.le_refl _))
  clear h17 g17 H16 B16
  obtain ⟨w18, r18, h18, g18⟩ := run_put (P := Tryd.prog) uMapX uKindX H17.out 18 (.agg #[.int .i64 2, .bool false, .bool false, .bool false, .string ⟨#[60, 61]⟩]) (by rfl)
  have H18 := Lib.hid h18
  have B18 := Lib.hid (B17.out.grown g18 (by have := B17.out.size; skip; omega) (fun k hk => by cases hk; exact Nat.le_refl _))
  clear h18 g18 H17 B17
  obtain ⟨w19, r19, h19, g19⟩ := run_put (P := Tryd.prog) uMapX uKindX H18.out 19 (.agg #[.int .i64 2, .bool false, .bool false, .bool false, .string ⟨#[62]⟩]) (by rfl)
  have H19 := Lib.hid h19
  have B19 := Lib.hid (B18.out.grown g19 (by have := B18.out.size; skip; omega) (fun k hk => by cases hk; exact Nat.le_refl _))
  clear h19 g19 H18 B18
  obtain ⟨w20, r20, h20, g20⟩ := run_put (P := Tryd.prog) uMapX uKindX H19.out 20 (.agg #[.int .i64 2, .bool false, .bool false, .bool false, .string ⟨#[62, 61]⟩]) (by rfl)
  have H20 := Lib.hid h20
  have B20 := Lib.hid (B19.out.grown g20 (by have := B19.out.size; skip; omega) (fun k hk => by cases hk; exact Nat.le_refl _))
  clear h20 g20 H19 B19
  obtain ⟨w21, r21, h21, g21⟩ := run_put (P := Tryd.prog) uMapX uKindX H20.out 21 (.agg #[.int .i64 2, .bool false, .bool false, .bool false, .string ⟨#[38, 38]⟩]) (by rfl)
  have H21 := Lib.hid h21
  have B21 := Lib.hid (B20.out.grown g21 (by have := B20.out.size; skip; omega) (fun k hk => by cases hk; exact Nat.le_refl _))
  clear h21 g21 H20 B20
  obtain ⟨w22, r22, h22, g22⟩ := run_put (P := Tryd.prog) uMapX uKindX H21.out 22 (.agg #[.int .i64 2, .bool false, .bool false, .bool false, .string ⟨#[124, 124]⟩]) (by rfl)
  have H22 := Lib.hid h22
  have B22 := Lib.hid (B21.out.grown g22 (by have := B21.out.size; skip; omega) (fun k hk => by cases hk; exact Nat.le_refl _))
  clear h22 g22 H21 B21
  go_enter Tryd.func35, Tryd.ntmps35
  go_wp2_with fail
  go_ret
  exact ⟨w.heap.size, rfl, Nat.le_refl _, H22.out, B22.out⟩

end Go.Proofs.YtflbplljlkpeiaaDoor
