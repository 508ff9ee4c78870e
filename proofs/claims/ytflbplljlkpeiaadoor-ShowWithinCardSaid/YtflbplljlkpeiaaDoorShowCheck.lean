/- The show layer's checker: a new one, one item more, whether an expression is none. -/
import Derived.Test.YtflbplljlkpeiaaDoorRows
import Derived.Test.YtflbplljlkpeiaaDoorShowTxt
import Derived.Test.YtflbplljlkpeiaaDoorShowPair
import Derived.Laws.StructEq
import Derived.WalkKit
import Derived.WalkSpells
import Derived.WalkLawsBesides
import Derived.Lib.Hide
namespace Go.Proofs.YtflbplljlkpeiaaDoor
open Go.RowKit

/-- Of the blocks that there were, nothing is written but block c. -/
structure Only (c : Nat) (w w' : World) : Prop where
  os : w'.os = w.os
  tape : w'.tape = w.tape
  output : w'.output = w.output
  size : w.heap.size ≤ w'.heap.size
  block : ∀ k, k < w.heap.size → k ≠ c → w'.heap[k]? = w.heap[k]?
theorem Only.refl (c : Nat) (w : World) : Only c w w := ⟨rfl, rfl, rfl, Nat.le_refl _, fun _ _ _ => rfl⟩
theorem Only.trans {c : Nat} {a b w : World} (h : Only c a b) (k : Only c b w) : Only c a w :=
  ⟨k.os.trans h.os, k.tape.trans h.tape, k.output.trans h.output, Nat.le_trans h.size k.size, fun i hi hc => (k.block i (Nat.lt_of_lt_of_le hi h.size) hc).trans (h.block i hi hc)⟩
theorem Only.of {c : Nat} {w w' : World} (h : Below w.heap.size w w') : Only c w w' := ⟨h.os, h.tape, h.output, h.size, fun k hk _ => h.block k hk⟩
theorem Only.more {c : Nat} {a w w' : World} (h : Only c a w) (k : Below w.heap.size w w') : Only c a w' := h.trans (.of k)
theorem Only.alloc {c : Nat} {a w : World} (h : Only c a w) (o : Obj) : Only c a (w.alloc o) := h.more (below_box w o)
theorem Only.cell {c : Nat} {a w : World} (h : Only c a w) (j : Nat) (v : Value) : Only c a (w.setCell ⟨c, j, none⟩ v) :=
  h.trans ⟨rfl, rfl, rfl, by simp [World.setCell], fun _ _ hk => Below.heap_setCell _ _ _ _ (by simpa using hk)⟩
theorem Only.below {B c : Nat} {w w' : World} (h : Only c w w') (hB : B ≤ c) (hs : B ≤ w.heap.size) : Below B w w' := ⟨h.os, h.tape, h.output, h.size, fun k hk => h.block k (by omega) (by omega)⟩
/-- A variable of the call's own, behind what it has called. -/
theorem Only.own {c : Nat} {w w' : World} {o : Obj} (h : Only c (w.alloc o) w') (hc : c < w.heap.size) : w'.heap[w.heap.size]? = some o := by
  rw [h.block _ (by simp) (by omega)]
  exact (MapKept.heap_alloc w _).1

/-- A checker, made behind B, in block c: so many items it has met. -/
def Ck (B c n : Nat) (w : World) : Prop :=
  B ≤ c ∧ ∃ m1 m2, w.heap[c]? = some (.cells #[.map (some m1), .map (some m2), .int .i64 n] 93 (0, 0)) ∧ IsMap w m1 kvx ∧ IsMap w m2 kvs
theorem Ck.lt {B c n : Nat} {w : World} (h : Ck B c n w) : c < w.heap.size := by
  obtain ⟨_, m1, m2, hb, _⟩ := h
  exact (Array.getElem?_eq_some_iff.1 hb).1
theorem Ck.kept {B c n : Nat} {w w' : World} (h : Ck B c n w) (hb : Below w.heap.size w w') : Ck B c n w' := by
  have hlt := h.lt
  obtain ⟨hB, m1, m2, hc, h1, h2⟩ := h
  exact ⟨hB, m1, m2, (hb.block c hlt).trans hc, h1.of (hb.block _ h1.lt), h2.of (hb.block _ h2.lt)⟩
theorem Ck.alloc {B c n : Nat} {w : World} (h : Ck B c n w) (o : Obj) : Ck B c n (w.alloc o) := h.kept (below_box w o)
theorem Ck.next {B c n : Nat} {w : World} (h : Ck B c n w) : Ck B c (n + 1) (w.setCell ⟨c, 2, none⟩ (.int .i64 ((n : Int) + 1))) := by
  obtain ⟨hB, m1, m2, hc, h1, h2⟩ := h
  refine ⟨hB, m1, m2, ?_, h1.of (Below.heap_setCell _ _ _ _ (map_ne h1 hc)), h2.of (Below.heap_setCell _ _ _ _ (map_ne h2 hc))⟩
  simp [World.setCell, Array.getElem?_modify, hc]
theorem Ck.reads {B c n : Nat} {w : World} (h : Ck B c n w) : w.cell? ⟨c, 2, none⟩ = some (.int .i64 n) ∧ w.frozen? ⟨c, 2, none⟩ = false ∧ ∃ m1 m2, w.cell? ⟨c, 0, none⟩ = some (.map (some m1)) ∧ w.cell? ⟨c, 1, none⟩ = some (.map (some m2)) ∧ IsMap w m1 kvx ∧ IsMap w m2 kvs := by
  obtain ⟨hB, m1, m2, hc, h1, h2⟩ := h
  exact ⟨by rw [Lib.cell_of_heap hc]; rfl, Lib.frozen_of_heap hc 2, m1, m2, by rw [Lib.cell_of_heap hc]; rfl, by rw [Lib.cell_of_heap hc]; rfl, h1, h2⟩

/-- What a walk of the checker's leaves: how many items there are then, or the error by which it gives up. -/
def Went (B c : Nat) (r : Except Int Nat) (w : World) (e : Ending) (w' : World) : Prop :=
  Only c w w' ∧ (∀ n, r = .ok n → e = .returned (.tuple #[]) ∧ Ck B c n w') ∧ (∀ k, r = .error k → e = .panicked (fl k))
theorem Went.ok {B c n : Nat} {r : Except Int Nat} {w w' : World} (hr : r = .ok n) (h : Only c w w') (hc : Ck B c n w') : Went B c r w (.returned (.tuple #[])) w' :=
  ⟨h, (fun m e => by rw [hr] at e; cases e; exact ⟨rfl, hc⟩), (fun k e => by rw [hr] at e; cases e)⟩
theorem Went.no {B c : Nat} {k : Int} {r : Except Int Nat} {w w' : World} (hr : r = .error k) (h : Only c w w') : Went B c r w (.panicked (fl k)) w' :=
  ⟨h, (fun m e => by rw [hr] at e; cases e), (fun j e => by rw [hr] at e; cases e; rfl)⟩
theorem Went.yes {B c n : Nat} {r : Except Int Nat} {w w' : World} {e : Ending} (h : Went B c r w e w') (hr : r = .ok n) : e = .returned (.tuple #[]) ∧ Ck B c n w' ∧ Only c w w' := ⟨(h.2.1 n hr).1, (h.2.1 n hr).2, h.1⟩
theorem Went.not {B c : Nat} {k : Int} {r : Except Int Nat} {w w' : World} {e : Ending} (h : Went B c r w e w') (hr : r = .error k) : e = .panicked (fl k) ∧ Only c w w' := ⟨h.2.2 k hr, h.1⟩

set_option maxHeartbeats 1000000 in
theorem newck_any (w : World) : Calls Tryd.prog 26 #[] w fun e w' => ∃ c, e = .returned (.pointer (some ⟨c, 0, none⟩)) ∧ Ck w.heap.size c 0 w' ∧ Below w.heap.size w w' := by
  have HX := Lib.hid (xkinds_any w)
  have HS := Lib.hid (fun w => skinds_any w)
  go_enter Tryd.func26, Tryd.ntmps26
  go_wp2_with fail
  refine HX.out.mono ?_; rintro e w1 ⟨m1, rfl, hm1, hM1, hb1⟩
  have hs1 := hb1.size
  go_wp2_with fail
  refine (HS.out w1).mono ?_; rintro e w2 ⟨m2, rfl, hm2, hM2, hb2⟩
  have hs2 := hb2.size
  have HB := Lib.hid (hb1.trans (hb2.mono hs1))
  have HM1 := Lib.hid (hM1.of (hb2.block _ hM1.lt))
  have HM2 := Lib.hid hM2
  clear hM1 hM2 hb1 hb2
  go_wp2_with fail
  go_ret
  refine ⟨w2.heap.size, rfl, ⟨by omega, m1, m2, (MapKept.heap_alloc w2 _).1, ?_, ?_⟩, HB.out.alloc (by omega) _⟩
  · exact HM1.out.of (Below.heap_alloc _ _ _ HM1.out.lt)
  · exact HM2.out.of (Below.heap_alloc _ _ _ HM2.out.lt)

/-- One item more, so deep. -/
def itemR (d n : Nat) : Except Int Nat := if 16 < d ∨ 1024 < n + 1 then .error 3 else .ok (n + 1)

set_option maxHeartbeats 1000000 in
theorem item_any (B c n d : Nat) (w : World) (h : Ck B c n w) (hn : n ≤ 1000000) (hd : d ≤ 1000000) :
    Calls Tryd.prog 45 #[.pointer (some ⟨c, 0, none⟩), .int .i64 (d : Int)] w (Went B c (itemR d n) w) := by
  by_cases h1 : 16 < d
  · have HF := Lib.hid (show itemR d n = .error 3 from if_pos (.inl h1))
    have hi : (16 : Int) < (d : Int) := by omega
    clear h
    go_enter Tryd.func45, Tryd.ntmps45
    go_wp2_with (go_at_call 34; refine (most_no _ _ (by omega) _).mono ?_; rintro e w' ⟨rfl, rfl⟩)
    exact ⟨rfl, Went.no HF.out (Only.refl _ _)⟩
  · obtain ⟨q2, f2, -⟩ := h.reads
    have HN := Lib.hid h.next
    have HC := Lib.hid ((Only.refl c w).cell 2 (.int .i64 ((n : Int) + 1)))
    have hi : (d : Int) ≤ (16 : Int) := by omega
    by_cases h2 : 1024 < n + 1
    · have HF := Lib.hid (show itemR d n = .error 3 from if_pos (.inr h2))
      have hj : (1024 : Int) < (n : Int) + 1 := by omega
      clear h h1 h2
      go_enter Tryd.func45, Tryd.ntmps45
      go_wp2_with fail
      refine (most_yes _ _ (by omega) _).mono ?_; rintro e w' ⟨rfl, rfl⟩
      go_wp2_with fail
      refine (most_no _ _ (by omega) _).mono ?_; rintro e w' ⟨rfl, rfl⟩
      go_wp2_with fail
      exact ⟨rfl, Went.no HF.out HC.out⟩
    · have HF := Lib.hid (show itemR d n = .ok (n + 1) from if_neg (by omega))
      have hj : (n : Int) + 1 ≤ (1024 : Int) := by omega
      clear h h1 h2
      go_enter Tryd.func45, Tryd.ntmps45
      go_wp2_with fail
      refine (most_yes _ _ (by omega) _).mono ?_; rintro e w' ⟨rfl, rfl⟩
      go_wp2_with fail
      refine (most_yes _ _ (by omega) _).mono ?_; rintro e w' ⟨rfl, rfl⟩
      go_wp2_with fail
      go_end0
      exact Went.ok HF.out HC.out HN.out

end Go.Proofs.YtflbplljlkpeiaaDoor
