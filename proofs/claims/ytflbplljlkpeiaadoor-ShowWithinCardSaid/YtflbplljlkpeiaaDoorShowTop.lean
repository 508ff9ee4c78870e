/- What the show layer's Type and Expr answer, at every type and every expression: the text, or the first thing that is wrong. -/
import Derived.Test.YtflbplljlkpeiaaDoorRows
import Derived.Test.YtflbplljlkpeiaaDoorShowGoes
import Derived.Test.YtflbplljlkpeiaaDoorShowCaught
import Derived.Test.YtflbplljlkpeiaaDoorShowExpr
import Derived.Deep.DrawnRows
import Derived.RegionTactic
import Derived.WalkKit
import Derived.WalkSpells
import Derived.WalkLawsBesides
import Derived.Lib.Hide
namespace Go.Proofs.YtflbplljlkpeiaaDoor
open Go.RowKit
attribute [local go_sem ↓] Go.wp_at_zero Go.wp_at_succ

/-- A text and no error. -/
def Tells (l : List UInt8) (w : World) (e : Ending) (w' : World) : Prop := e = .returned (.tuple #[.string ⟨l.toArray⟩, .int .i64 0]) ∧ Below w.heap.size w w'
/-- An error and no text. -/
def Fails (r : Int) (w : World) (e : Ending) (w' : World) : Prop := e = .returned (.tuple #[.string ⟨#[]⟩, .int .i64 r]) ∧ Below w.heap.size w w'

theorem told_short {B : Nat} {l : List UInt8} {w w' : World} {e : Ending} (h : Told B l w e w') (hl : l.length ≤ 65536) : e = .returned (.tuple #[.string ⟨l.toArray⟩, .int .i64 0]) ∧ Below B w w' :=
  ⟨h.1.trans (if_neg (by omega)), h.2⟩
theorem told_long {B : Nat} {l : List UInt8} {w w' : World} {e : Ending} (h : Told B l w e w') (hl : 65536 < l.length) : e = .returned (.tuple #[.string ⟨#[]⟩, .int .i64 3]) ∧ Below B w w' :=
  ⟨h.1.trans (if_pos hl), h.2⟩

theorem own3 {w : World} {b : Nat} {T : TypeId} {fr : Nat × Nat} {a0 a1 a2 : Value} (h : w.heap[b]? = some (.cells #[a0, a1, a2] T fr)) : w.cell? ⟨b, 0, none⟩ = some a0 ∧ w.cell? ⟨b, 1, none⟩ = some a1 ∧ w.cell? ⟨b, 2, none⟩ = some a2 :=
  ⟨by rw [Lib.cell_of_heap h]; rfl, by rw [Lib.cell_of_heap h]; rfl, by rw [Lib.cell_of_heap h]; rfl⟩

set_option maxHeartbeats 1000000 in
theorem type1_any (b : Nat) (tk tz : Int) (tn : ByteArray) (hs : tn.size ≤ 9223372036854775807) (w : World) (h : w.heap[b]? = some (.cells #[.int .u8 tk, .string tn, .int .i64 tz] 24 (0, 0))) :
    Calls Tryd.prog 15 #[.pointer (some ⟨b, 0, none⟩)] w (Ends (tyForm tk tn.data.toList tz) w) := by
  obtain ⟨q0, q1, q2⟩ := own3 h
  obtain ⟨r, hr⟩ : ∃ r, r = tyForm tk tn.data.toList tz := ⟨_, rfl⟩
  have hT := ctype_any tk tz tn hs
  have hc := tyForm_cases tk tn.data.toList tz
  rw [← hr] at hT hc ⊢
  have HT := Lib.hid hT
  clear h hT hr
  rcases hc with rfl | rfl | rfl
  · go_enter Tryd.func15, Tryd.ntmps15
    go_wp2_with (go_at_call 16; refine (HT.out _).mono ?_; rintro e w' hq; obtain ⟨rfl, hb'⟩ := hq.to0 rfl)
    go_end0
    exact Ends.ok rfl hb'
  · go_enter Tryd.func15, Tryd.ntmps15
    go_wp2_with (go_at_call 16; refine (HT.out _).mono ?_; rintro e w' hq; obtain ⟨rfl, hb'⟩ := hq.to1 rfl)
    exact ⟨rfl, Ends.arg rfl hb'⟩
  · go_enter Tryd.func15, Tryd.ntmps15
    go_wp2_with (go_at_call 16; refine (HT.out _).mono ?_; rintro e w' hq; obtain ⟨rfl, hb'⟩ := hq.to3 rfl)
    exact ⟨rfl, Ends.limit rfl hb'⟩

theorem tyText_pos (tk tz : Int) (tn : List UInt8) : tyText tk tn tz ≠ [] := by
  unfold tyText
  intro e
  have := congrArg List.length e
  by_cases h : tn = []
  · rw [if_pos h] at this; simp at this
  · rw [if_neg h] at this; simp at this; exact h this.2

set_option maxHeartbeats 1000000 in
theorem stype_no (tk tz : Int) (tn : ByteArray) (hs : tn.size ≤ 9223372036854775807) (r : Int) (hr : tyForm tk tn.data.toList tz = r) (hr0 : r = 1 ∨ r = 3) (w : World) :
    Calls Tryd.prog 5 #[.agg #[.int .u8 tk, .string tn, .int .i64 tz]] w (Fails r w) := by
  have hmf : ∀ (fn : Fn) (first cap : Array Value) (w : World), (Instr.makeFunc fn first cap).run Tryd.prog w = .ok (.func fn first cap) w := fun _ _ _ _ => rfl
  have hT := type1_any w.heap.size tk tz tn hs ((w.alloc (.cells #[.int .u8 tk, .string tn, .int .i64 tz] 24)).alloc (.cells #[.int .i64 0] 25)) (by
    rw [Below.heap_alloc _ _ _ (by simp)]
    exact (MapKept.heap_alloc _ _).1)
  rw [hr] at hT
  have HC := Lib.hid (caught_type ⟨w.heap.size, 0, none⟩ r (by omega) _ hT)
  have HB := Lib.hid (below_box w (.cells #[.int .u8 tk, .string tn, .int .i64 tz] 24))
  have hn : (r == 0) = false := beq_eq_false_iff_ne.2 (by omega)
  have hn2 : (r != 0) = true := by rw [bne, hn]; rfl
  clear hT hr hr0
  go_enter Tryd.func5, Tryd.ntmps5
  go_wp2_with (go_at_call 14; refine HC.out.mono ?_; rintro e w2 ⟨rfl, hb2⟩)
  go_ret2
  exact ⟨rfl, HB.out.trans (hb2.mono (by simp))⟩

set_option maxHeartbeats 1000000 in
theorem stype_yes (tk tz : Int) (tn : ByteArray) (hs : tn.size ≤ 9223372036854775807) (hr : tyForm tk tn.data.toList tz = 0) (w : World) (hG : Good w) :
    Calls Tryd.prog 5 #[.agg #[.int .u8 tk, .string tn, .int .i64 tz]] w (Tells (tyText tk tn.data.toList tz) w) := by
  have hmf : ∀ (fn : Fn) (first cap : Array Value) (w : World), (Instr.makeFunc fn first cap).run Tryd.prog w = .ok (.func fn first cap) w := fun _ _ _ _ => rfl
  have hT := type1_any w.heap.size tk tz tn hs ((w.alloc (.cells #[.int .u8 tk, .string tn, .int .i64 tz] 24)).alloc (.cells #[.int .i64 0] 25)) (by
    rw [Below.heap_alloc _ _ _ (by simp)]
    exact (MapKept.heap_alloc _ _).1)
  rw [hr] at hT
  obtain ⟨ht1, ht2, ht3⟩ := tyForm_name hr
  rw [size_of] at ht1
  have htl := tyText_len tk tz tn.data.toList (by rw [size_of]; exact ht1) ht3 ht2
  have HP := Lib.hid (tyText_pos tk tz tn.data.toList)
  have HC := Lib.hid (caught_type ⟨w.heap.size, 0, none⟩ 0 (.inl rfl) _ hT)
  have HB := Lib.hid (below_box w (.cells #[.int .u8 tk, .string tn, .int .i64 tz] 24))
  have HO := Lib.hid (MapKept.heap_alloc w (.cells #[.int .u8 tk, .string tn, .int .i64 tz] 24)).1
  have HG := Lib.hid hG
  clear hT hr hG
  go_enter Tryd.func5, Tryd.ntmps5
  go_wp2_with fail
  refine HC.out.mono ?_; rintro e w2 ⟨rfl, hb2⟩
  have hs2 := hb2.size
  simp at hs2
  have HO2 := Lib.hid ((hb2.block _ (by simp)).trans HO.out)
  have HB2 := Lib.hid (HB.out.trans (hb2.mono (by simp)))
  clear hb2
  go_wp2_with fail
  refine (newwr_any _).mono ?_; rintro e w3 ⟨c, rfl, hW3, hb3⟩
  have hs3 := hb3.size
  have HB3 := Lib.hid (HB2.out.trans (hb3.mono (by omega)))
  have HO3 := Lib.hid ((hb3.block _ (by omega)).trans HO2.out)
  obtain ⟨q0, q1, q2⟩ := own3 HO3.out
  have HT := Lib.hid (tname_any w2.heap.size c [] 0 tk tz tn w3 hW3 hs3 (by simp; omega) (by omega) (by omega) (((HG.out.keeps HB2.out).knows).below hb3))
  clear hW3 hb3
  go_wp2_with fail
  refine HT.out.mono ?_; rintro e w4 ⟨rfl, hW4, hD4⟩
  have HB4 := Lib.hid (HB3.out.trans (hD4.below.mono (by omega)))
  have HQ := Lib.hid (told_any w2.heap.size c _ 0 w4 hW4 (by simpa using HP.out) (by simp; omega))
  clear hW4 hD4
  go_wp2_with (go_at_call 19; refine HQ.out.mono ?_; rintro e w5 hq; obtain ⟨rfl, hb5⟩ := told_short hq (by simp; omega))
  go_ret2
  exact ⟨rfl, HB4.out.trans (hb5.mono (by omega))⟩
end Go.Proofs.YtflbplljlkpeiaaDoor
