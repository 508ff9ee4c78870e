/- The show layer's writer, which has the library's builder within it: what the builder's methods do to it. A writer holds the bytes that were written, in memory of its own, and the map of the expressions' kinds. -/
import Derived.Test.YtflbplljlkpeiaaDoorRows
import Derived.Test.YtflbplljlkpeiaaDoorShowMaps
import Derived.Lib.Builder
import Derived.MapKept
import Derived.Lib.AppendStr
import Derived.Lib.UnsafeStr
import Derived.Lib.Strings
import Derived.Laws.Externs
import Derived.Laws.OwnMore
import Derived.RegionTactic
import Derived.ChangeAlike
import Derived.WalkKit
import Derived.WalkSpells
import Derived.WalkLawsBesides
import Derived.Lib.Hide
namespace Go.Proofs.YtflbplljlkpeiaaDoor
open Go.RowKit

/-- A writer, made behind B, in block c: what has been written, and in how many lists the next line stands. -/
def WrAt (B c : Nat) (p : Value) (l : List UInt8) (d : Int) (w : World) : Prop :=
  B ≤ c ∧ ∃ v m, w.heap[c]? = some (.cells #[p, v, .map (some m), .int .i64 d] 85 (0, 0)) ∧ IsMap w m kvx ∧ w.ownsRow B 5 1 v l.length (Lib.byteCells l) ∧ v.ownBlock ≠ some c
def Wr (B c : Nat) (l : List UInt8) (d : Int) (w : World) : Prop := WrAt B c (.pointer none) l d w ∨ WrAt B c (.pointer (some ⟨c, 0, none⟩)) l d w

theorem WrAt.lt {B c : Nat} {p : Value} {l : List UInt8} {d : Int} {w : World} (h : WrAt B c p l d w) : c < w.heap.size := by
  obtain ⟨_, v, m, hb, _⟩ := h
  exact (Array.getElem?_eq_some_iff.1 hb).1
theorem Wr.lt {B c : Nat} {l : List UInt8} {d : Int} {w : World} (h : Wr B c l d w) : c < w.heap.size := h.elim WrAt.lt WrAt.lt
theorem Wr.base {B c : Nat} {l : List UInt8} {d : Int} {w : World} (h : Wr B c l d w) : B ≤ c := h.elim (·.1) (·.1)

theorem map_ne {w : World} {m c : Nat} {l : List (Int × Value)} {cs : Array Value} {T : TypeId} {fr : Nat × Nat} (h : IsMap w m l) (hc : w.heap[c]? = some (.cells cs T fr)) : m ≠ c := by
  rintro rfl
  obtain ⟨es, ck, hb, _⟩ := h
  rw [hb] at hc
  cases hc
theorem own_map {w : World} {B : Nat} {e : TypeId} {v : Value} {n : Nat} {xs : List Value} {m : Nat} {l : List (Int × Value)} (hown : w.ownsRow B e 1 v n xs) (h : IsMap w m l) : v.ownBlock ≠ some m := by
  rcases hown.2 with ⟨rfl, _⟩ | ⟨g, cap, cur, rfl, _, hg, _⟩
  · simp [Value.ownBlock]
  · intro e
    simp only [Value.ownBlock, Option.some.injEq] at e
    subst e
    exact map_ne h hg rfl

/-- What else is written, and what is made, leaves a writer as it is. -/
theorem WrAt.kept {B c : Nat} {p : Value} {l : List UInt8} {d : Int} {w w' : World} (h : WrAt B c p l d w) (hg : w.grownBy w' none) : WrAt B c p l d w' := by
  have hlt := h.lt
  obtain ⟨hB, v, m, hb, hm, hown, hne⟩ := h
  exact ⟨hB, v, m, (hg.block c hlt (by simp)).trans hb, hm.of (hg.block m hm.lt (by simp)), hown.kept hg (by cases hv : v.ownBlock <;> simp), hne⟩
theorem Wr.kept {B c : Nat} {l : List UInt8} {d : Int} {w w' : World} (h : Wr B c l d w) (hg : w.grownBy w' none) : Wr B c l d w' := h.elim (fun h => .inl (h.kept hg)) (fun h => .inr (h.kept hg))
theorem Wr.alloc {B c : Nat} {l : List UInt8} {d : Int} {w : World} (h : Wr B c l d w) (o : Obj) : Wr B c l d (w.alloc o) := h.kept (World.grownBy_alloc w o none)
theorem Wr.drew {B c : Nat} {l : List UInt8} {d : Int} {w : World} (h : Wr B c l d w) : Wr B c l d w.drew := h
theorem grown_of_below {w w' : World} (hb : Below w.heap.size w w') : w.grownBy w' none := ⟨hb.os, hb.tape, hb.output, hb.size, fun k hk _ => hb.block k hk⟩
theorem Wr.below {B c : Nat} {l : List UInt8} {d : Int} {w w' : World} (h : Wr B c l d w) (hb : Below w.heap.size w w') : Wr B c l d w' := h.kept (grown_of_below hb)

/-- A store into a cell of the writer's own block: of the builder's address, of how many lists there are. -/
theorem WrAt.addr {B c : Nat} {p : Value} {l : List UInt8} {d : Int} {w : World} (h : WrAt B c p l d w) (q : Value) : WrAt B c q l d (w.setCell ⟨c, 0, none⟩ q) := by
  obtain ⟨hB, v, m, hb, hm, hown, hne⟩ := h
  refine ⟨hB, v, m, ?_, hm.of (Below.heap_setCell _ _ _ _ (map_ne hm hb)), ?_, hne⟩
  · simp [World.setCell, Array.getElem?_modify, hb]
  · exact hown.kept (row := some c) ⟨rfl, rfl, rfl, by simp [World.setCell], fun k _ hk => Below.heap_setCell _ _ _ _ (fun e => hk (by simp [e]))⟩ (Or.inr hne)
theorem WrAt.lists {B c : Nat} {p : Value} {l : List UInt8} {d : Int} {w : World} (h : WrAt B c p l d w) (d' : Int) : WrAt B c p l d' (w.setCell ⟨c, 3, none⟩ (.int .i64 d')) := by
  obtain ⟨hB, v, m, hb, hm, hown, hne⟩ := h
  refine ⟨hB, v, m, ?_, hm.of (Below.heap_setCell _ _ _ _ (map_ne hm hb)), ?_, hne⟩
  · simp [World.setCell, Array.getElem?_modify, hb]
  · exact hown.kept (row := some c) ⟨rfl, rfl, rfl, by simp [World.setCell], fun k _ hk => Below.heap_setCell _ _ _ _ (fun e => hk (by simp [e]))⟩ (Or.inr hne)
theorem Wr.lists {B c : Nat} {l : List UInt8} {d : Int} {w : World} (h : Wr B c l d w) (d' : Int) : Wr B c l d' (w.setCell ⟨c, 3, none⟩ (.int .i64 d')) := h.elim (fun h => .inl (h.lists d')) (fun h => .inr (h.lists d'))
theorem WrAt.put {B c : Nat} {p v v' : Value} {l' : List UInt8} {d : Int} {w : World} {m : Nat} (hB : B ≤ c) (hb : w.heap[c]? = some (.cells #[p, v, .map (some m), .int .i64 d] 85 (0, 0))) (hm : IsMap w m kvx)
    (hown : w.ownsRow B 5 1 v' l'.length (Lib.byteCells l')) : WrAt B c p l' d (w.setCell ⟨c, 1, none⟩ v') := by
  have hne := Lib.ownBlock_ne hown hb (by decide)
  refine ⟨hB, v', m, ?_, hm.of (Below.heap_setCell _ _ _ _ (map_ne hm hb)), ?_, hne⟩
  · simp [World.setCell, Array.getElem?_modify, hb]
  · exact hown.kept (row := some c) ⟨rfl, rfl, rfl, by simp [World.setCell], fun k _ hk => Below.heap_setCell _ _ _ _ (fun e => hk (by simp [e]))⟩ (Or.inr hne)

/-- What a call on a writer does: below B nothing; of the blocks that there were, it writes the writer's own and the buffer's alone. -/
structure Did (B c : Nat) (w w' : World) : Prop where
  below : Below B w w'
  rest : ∀ k cs T fr, w.heap[k]? = some (.cells cs T fr) → k ≠ c → T ≠ 5 → w'.heap[k]? = some (.cells cs T fr)
theorem Did.refl (B c : Nat) (w : World) : Did B c w w := ⟨Below.refl B w, fun _ _ _ _ h _ _ => h⟩
theorem Did.trans {B c : Nat} {a b w : World} (h : Did B c a b) (k : Did B c b w) : Did B c a w := ⟨h.below.trans k.below, fun i cs T fr hi hc hT => k.rest i cs T fr (h.rest i cs T fr hi hc hT) hc hT⟩
theorem Did.grew {B c : Nat} {a w w' : World} (h : Did B c a w) (hB : B ≤ w.heap.size) (hb : Below w.heap.size w w') : Did B c a w' :=
  h.trans ⟨hb.mono hB, fun k _ _ _ hk _ _ => (hb.block k (Array.getElem?_eq_some_iff.1 hk).1).trans hk⟩
theorem Did.alloc {B c : Nat} {a w : World} (h : Did B c a w) (hB : B ≤ w.heap.size) (o : Obj) : Did B c a (w.alloc o) := h.grew hB (below_box w o)
theorem Did.cell {B c : Nat} {a w : World} (h : Did B c a w) (hB : B ≤ c) (j : Nat) (v : Value) : Did B c a (w.setCell ⟨c, j, none⟩ v) :=
  h.trans ⟨(Below.refl B w).setCell (p := ⟨c, j, none⟩) hB v, fun _ _ _ _ hk hc _ => (Below.heap_setCell _ _ _ _ (by simpa using hc)).trans hk⟩
/-- A variable of the call's own, behind what it has called. -/
theorem Did.own {B c : Nat} {w w' : World} {cs : Array Value} {T : TypeId} {fr : Nat × Nat} (h : Did B c (w.alloc (.cells cs T fr)) w') (hc : c < w.heap.size) (hT : T ≠ 5) : w'.heap[w.heap.size]? = some (.cells cs T fr) :=
  h.rest _ _ _ _ ((MapKept.heap_alloc w _).1) (by omega) hT

/-- What a walk reads of a writer. -/
theorem WrAt.reads {B c : Nat} {p : Value} {l : List UInt8} {d : Int} {w : World} (h : WrAt B c p l d w) : w.cell? ⟨c, 0, none⟩ = some p ∧ w.cell? ⟨c, 3, none⟩ = some (.int .i64 d) ∧ w.shape? c = some (85, 4) ∧ ∀ j, w.frozen? ⟨c, j, none⟩ = false := by
  obtain ⟨hB, v, m, hb, _⟩ := h
  exact ⟨by rw [Lib.cell_of_heap hb]; rfl, by rw [Lib.cell_of_heap hb]; rfl, by simp [World.shape?, hb], fun j => Lib.frozen_of_heap hb j⟩
theorem Wr.deep {B c : Nat} {l : List UInt8} {d : Int} {w : World} (h : Wr B c l d w) : w.cell? ⟨c, 3, none⟩ = some (.int .i64 d) ∧ ∀ j, w.frozen? ⟨c, j, none⟩ = false := h.elim (fun h => ⟨h.reads.2.1, h.reads.2.2.2⟩) (fun h => ⟨h.reads.2.1, h.reads.2.2.2⟩)

theorem sizeBuilder : (Tryd.prog.info? 83).map (·.size) = some 2 := by kernel_rfl
theorem liesBuilder : liesAt Tryd.prog Tryd.prog.depth 85 (4 / Tryd.prog.cellsOf 85) 0 83 1 = true := by kernel_rfl
theorem infoByte : (Tryd.prog.info? 5).map (fun i => (i.zero, i.size, i.bytes)) = some (some (.int .u8 0), 1, 1) := by kernel_rfl
theorem cellsByte : Tryd.prog.cellsOf 5 = 1 := by kernel_rfl

set_option maxHeartbeats 1000000 in
set_option maxRecDepth 100000 in
theorem check_fresh (c : Nat) (w : World) (h0 : w.cell? ⟨c, 0, none⟩ = some (.pointer none)) (hsh : w.shape? c = some (85, 4)) (hfz : w.frozen? ⟨c, 0, none⟩ = false) :
    Calls Tryd.prog 78 #[.pointer (some ⟨c, 0, none⟩)] w fun e w' => e = .returned (.tuple #[]) ∧ w' = w.setCell ⟨c, 0, none⟩ (.pointer (some ⟨c, 0, none⟩)) := by
  obtain ⟨j, hj, hjs⟩ := Option.map_eq_some_iff.1 sizeBuilder
  go_enter Tryd.func78, Tryd.ntmps78
  go_wp2
  rw [Lib.run_to_unsafe w ⟨c, 0, none⟩ Tryd.underlying80 Tryd.underlying125 hj (by rw [hjs]; decide) hsh (Nat.zero_lt_succ 3)]
  simp only [Result.andThen]
  rw [Oper.upon_value]
  go_wp2
  rw [run_callFunc_extern Tryd.func82 (by kernel_rfl) (by kernel_rfl) (by kernel_rfl) (e := Extern.AbiNoEscape.same) (by kernel_rfl)]
  rw [Lib.run_noEscape]
  simp only [Result.andThen]
  rw [Oper.upon_value]
  go_wp2
  rw [Lib.run_from_unsafe w ⟨c, 0, none⟩ Tryd.underlying125 Tryd.underlying80 hj hsh liesBuilder]
  simp only [Result.andThen]
  rw [Oper.upon_value]
  go_wp2
  go_end0
  exact ⟨rfl, rfl⟩

set_option maxHeartbeats 1000000 in
set_option maxRecDepth 100000 in
theorem check_used (c : Nat) (w : World) (h0 : w.cell? ⟨c, 0, none⟩ = some (.pointer (some ⟨c, 0, none⟩))) :
    Calls Tryd.prog 78 #[.pointer (some ⟨c, 0, none⟩)] w fun e w' => e = .returned (.tuple #[]) ∧ w' = w := by
  obtain ⟨j, hj, _⟩ := Option.map_eq_some_iff.1 sizeBuilder
  go_enter Tryd.func78, Tryd.ntmps78
  go_wp2
  rw [Lib.run_neq_ptr_same w _ Tryd.underlying80 hj]
  go_wp2
  go_end0
  exact ⟨rfl, rfl⟩

theorem check_any (B c : Nat) (l : List UInt8) (d : Int) (w : World) (h : Wr B c l d w) :
    Calls Tryd.prog 78 #[.pointer (some ⟨c, 0, none⟩)] w fun e w' => e = .returned (.tuple #[]) ∧ (WrAt B c (.pointer (some ⟨c, 0, none⟩)) l d w' ∧ Did B c w w' ∧ w.heap.size ≤ w'.heap.size) := by
  rcases h with h | h
  · obtain ⟨h0, _, hsh, hfz⟩ := h.reads
    refine (check_fresh c w h0 hsh (hfz 0)).mono ?_
    rintro e w' ⟨rfl, rfl⟩
    exact ⟨rfl, h.addr _, (Did.refl B c w).cell h.1 0 _, by simp [World.setCell]⟩
  · obtain ⟨h0, _, hsh, hfz⟩ := h.reads
    refine (check_used c w h0).mono ?_
    rintro e w' ⟨rfl, rfl⟩
    exact ⟨rfl, h, Did.refl B c _, Nat.le_refl _⟩

set_option maxHeartbeats 2000000 in
set_option maxRecDepth 100000 in
theorem wstring_any (B c : Nat) (l : List UInt8) (d : Int) (s : ByteArray) (w : World) (h : Wr B c l d w) (hlen : l.length + s.size ≤ 1000000000) (hBw : B ≤ w.heap.size) :
    Calls Tryd.prog 61 #[.pointer (some ⟨c, 0, none⟩), .string s] w fun e w' => e = .returned (.tuple #[.int .i64 s.size, .nilIface]) ∧ (Wr B c (l ++ s.data.toList) d w' ∧ Did B c w w') := by
  obtain ⟨i0, hi, hz0, hz1, hz2⟩ := info_parts infoByte
  have hk := check_any B c l d w h
  have HK := Lib.hid hk
  clear hk h
  go_enter Tryd.func61, Tryd.ntmps61
  go_wp2_with (go_at_call 78; refine (HK.out).mono ?_)
  rintro e w1 ⟨rfl, h1, hb1, hs1⟩
  obtain ⟨hB, v, m, hbk, hm, hown, hne⟩ := h1
  have hown0 := Lib.hid hown
  have hmv := own_map hown hm
  have hlt : c < w1.heap.size := (Array.getElem?_eq_some_iff.1 hbk).1
  have hmlt := hm.lt
  have HM := Lib.hid hm
  have HB1 := Lib.hid hb1
  have c0 : w1.cell? ⟨c, 0, none⟩ = some (.pointer (some ⟨c, 0, none⟩)) := by rw [Lib.cell_of_heap hbk]; rfl
  have c1 : w1.cell? ⟨c, 1, none⟩ = some v := by rw [Lib.cell_of_heap hbk]; rfl
  have HBK := Lib.hid hbk
  rw [← (Lib.byteCells_length l)] at hown
  have hlb := Lib.byteCells_length l
  have HLB := Lib.hid hlb
  have hlen' : (Lib.byteCells l).length + s.size ≤ 1000000000 := by omega
  clear hm hb1 hbk hlb hlen
  go_wp2_with (at_builtin; refine Lib.wpList_append_own_string _ rfl _ _ 81 9 rfl B 5 i0 Tryd.underlying81 Tryd.underlying9 hi hz0 hz1 hz2 _ _ _ rfl hown s rfl ?c3 ?c4 ?c5 ?_)
  case c3 => unfold maxLen; omega
  case c4 => omega
  case c5 => omega
  intro v' w2 hown' hgrow _
  have hb2 : w2.heap[c]? = some (.cells #[.pointer (some ⟨c, 0, none⟩), v, .map (some m), .int .i64 d] 85 (0, 0)) := by
    rw [hgrow.block c hlt (fun e => hne e.symm)]
    exact HBK.out
  have hm2 : IsMap w2 m kvx := HM.out.of (hgrow.block m hmlt (fun e => hmv e.symm))
  have d0 : w2.cell? ⟨c, 0, none⟩ = some (.pointer (some ⟨c, 0, none⟩)) := by rw [Lib.cell_of_heap hb2]; rfl
  have d1 : w2.cell? ⟨c, 1, none⟩ = some v := by rw [Lib.cell_of_heap hb2]; rfl
  have f1 : w2.frozen? ⟨c, 1, none⟩ = false := Lib.frozen_of_heap hb2 1
  have hrow : w2.ownsRow B 5 1 v' (l ++ s.data.toList).length (Lib.byteCells (l ++ s.data.toList)) := by
    rw [Lib.byteCells_append, List.length_append, ← HLB.out]
    have : s.data.toList.length = s.size := Array.length_toList
    rw [this]
    exact hown'
  have HP := Lib.hid (WrAt.put (p := .pointer (some ⟨c, 0, none⟩)) hB hb2 hm2 hrow)
  have HBL := Lib.hid ((HB1.out.trans ⟨(Below.refl B w1).grown hgrow (by omega) (fun k hk => (hown0.out.lt k hk).1), fun k _ _ _ hk _ hT => (hgrow.block k (Array.getElem?_eq_some_iff.1 hk).1 (fun e => Lib.ownBlock_ne hown0.out hk hT e.symm)).trans hk⟩).cell hB 1 v')
  obtain ⟨ao, n', cap, rfl⟩ : ∃ ao n' cap, v' = .slice ao n' cap := by
    rcases hown'.2 with ⟨hv, _⟩ | ⟨g, cap, cur, hv, _⟩
    · exact ⟨_, _, _, hv⟩
    · exact ⟨_, _, _, hv⟩
  clear hb2 hm2 hrow hown' hgrow hown
  go_wp2
  go_ret2
  exact ⟨rfl, .inr HP.out, HBL.out⟩

set_option maxHeartbeats 1000000 in
set_option maxRecDepth 100000 in
theorem wlen_any (B c : Nat) (l : List UInt8) (d : Int) (w : World) (h : Wr B c l d w) :
    Calls Tryd.prog 38 #[.pointer (some ⟨c, 0, none⟩)] w fun e w' => e = .returned (.int .i64 l.length) ∧ w = w' := by
  obtain ⟨p, hB, v, m, hbk, hm, hown, hne⟩ : ∃ p, WrAt B c p l d w := by
    rcases h with h | h
    · exact ⟨_, h⟩
    · exact ⟨_, h⟩
  obtain ⟨ao, cap, rfl⟩ : ∃ ao cap, v = .slice ao l.length cap := by
    rcases hown.2 with ⟨hv, h0⟩ | ⟨g, cap, cur, hv, _⟩
    · exact ⟨none, 0, by rw [hv, h0]⟩
    · exact ⟨_, _, hv⟩
  have c1 : w.cell? ⟨c, 1, none⟩ = some (.slice ao l.length cap) := by rw [Lib.cell_of_heap hbk]; rfl
  clear hown hm hbk
  go_enter Tryd.func38, Tryd.ntmps38
  go_wp2
  go_ret
  exact ⟨rfl, rfl⟩

set_option maxHeartbeats 1000000 in
set_option maxRecDepth 100000 in
theorem wtext_any (B c : Nat) (l : List UInt8) (d : Int) (w : World) (h : Wr B c l d w) (h0 : l ≠ []) :
    Calls Tryd.prog 39 #[.pointer (some ⟨c, 0, none⟩)] w fun e w' => e = .returned (.string ⟨l.toArray⟩) ∧ Below B w w' := by
  obtain ⟨p, hB, v, m, hbk, hm, hown, hne⟩ : ∃ p, WrAt B c p l d w := by
    rcases h with h | h
    · exact ⟨_, h⟩
    · exact ⟨_, h⟩
  have hl0 : l.length ≠ 0 := by simpa using h0
  obtain ⟨g, cap, cur, rfl, hbg, hg, hnc, hcm, hcs, htake⟩ : ∃ g cap cur, v = .slice (some ⟨g, 0, none⟩) l.length cap ∧ B ≤ g ∧ w.heap[g]? = some (.cells cur 5 (0, 0)) ∧ l.length ≤ cap ∧ cap ≤ maxLen ∧ cur.size = cap * 1 ∧ cur.toList.take (l.length * 1) = Lib.byteCells l := by
    rcases hown.2 with ⟨_, hz⟩ | ⟨g, cap, cur, hv, r⟩
    · exact absurd hz hl0
    · exact ⟨g, cap, cur, hv, r⟩
  have c1 : w.drew.cell? ⟨c, 1, none⟩ = some (.slice (some ⟨g, 0, none⟩) l.length cap) := by
    have : w.drew.heap[c]? = some (.cells #[p, .slice (some ⟨g, 0, none⟩) l.length cap, .map (some m), .int .i64 d] 85 (0, 0)) := hbk
    rw [Lib.cell_of_heap this]; rfl
  have hSD : (Builtin.unsafeSliceData_ #[81] 110 #[.slice (some ⟨g, 0, none⟩) l.length cap]).run Tryd.prog w.drew = .ok (.pointer (some ⟨g, 0, none⟩)) w.drew :=
    Lib.run_unsafeSliceData_row _ _ _ _ _ _ (by omega)
  have hUS : (Builtin.unsafeString_ #[110, 3] 9 #[.pointer (some ⟨g, 0, none⟩), .int .i64 l.length]).run Tryd.prog w.drew = .ok (.string ⟨l.toArray⟩) (w.drew.freeze ⟨g, 0, none⟩ l.length) := by
    refine Lib.run_unsafeString_row w.drew 110 3 9 5 Tryd.underlying110 cellsByte g cur.size (by have hg' : w.drew.heap[g]? = some (.cells cur 5 (0, 0)) := hg; simp [World.shape?, hg']) l h0 (by omega) (by unfold maxLen at hcm; omega) ?_
    intro j x hx
    have := hown.cells (g := g) rfl j (.int .u8 x.toNat) (by simp [Lib.byteCells, hx])
    exact this
  clear hown hm hbk hg htake hcs
  go_enter Tryd.func39, Tryd.ntmps39
  go_wp2
  go_region
  all_goals (go_wp2; go_ret; exact ⟨rfl, Lib.below_freeze (Below.drew (Below.refl B w)) (p := ⟨g, 0, none⟩) hbg _⟩)
end Go.Proofs.YtflbplljlkpeiaaDoor
