/- Whether an expression is two operands with a sign between, whether its text begins with a digit, whether it is none: what the show layer's functions answer. -/
import Derived.Test.YtflbplljlkpeiaaDoorRows
import Derived.Test.YtflbplljlkpeiaaDoorShowTxt
import Derived.Deep.QuietTactic
import Derived.Deep.Draws
import Derived.BigQuiet
import Derived.RegionTactic
import Derived.LoopTactic
import Derived.WalkKit
import Derived.WalkSpells
import Derived.WalkLawsBesides
import Derived.Lib.Hide
namespace Go.Proofs.YtflbplljlkpeiaaDoor
open Go.RowKit

theorem below_drew {B : Nat} {a w : World} (h : Below B a w) (n : Nat) : Below B a (w.drewN n) := ⟨h.os, h.tape, h.output, h.size, h.block⟩

theorem pair_yes {k : Int} {x : Wx} (h : wants k = some x) : pairK k = !x.sign.data.toList.isEmpty := by unfold pairK signK; rw [h]; rfl

theorem look_x {W : World} {m : Nat} (hm : IsMap W m kvx) {k : Int} {x : Wx} (hx : wants k = some x) (V : World) (hV : V.heap = W.heap) :
    (Instr.lookup 78 (.map (some m)) (.int .u8 k) false).run Tryd.prog V = .ok (.agg #[.int .i64 x.args, .bool x.number, .bool x.name, .bool x.made, .string x.sign]) V :=
  run_look uMapX uKindX (hm.of (by rw [hV])) false k x.val (by rw [look_kvx, hx]; rfl)

theorem Wr.map {B c : Nat} {l : List UInt8} {d : Int} {w : World} (h : Wr B c l d w) : ∃ m, w.cell? ⟨c, 1, none⟩ ≠ none ∧ w.cell? ⟨c, 2, none⟩ = some (.map (some m)) ∧ IsMap w m kvx := by
  rcases h with ⟨_, v, m, hb, hm, _⟩ | ⟨_, v, m, hb, hm, _⟩
  · exact ⟨m, by rw [Lib.cell_of_heap hb]; simp, by rw [Lib.cell_of_heap hb]; rfl, hm⟩
  · exact ⟨m, by rw [Lib.cell_of_heap hb]; simp, by rw [Lib.cell_of_heap hb]; rfl, hm⟩

set_option maxRecDepth 100000 in
set_option maxHeartbeats 1000000 in
theorem pair_any (B c : Nat) (l : List UInt8) (d : Int) (k n tk tz : Int) (nm tn : ByteArray) (s : Value) (x : Wx) (w : World) (h : Wr B c l d w) (hx : wants k = some x) :
    Calls Tryd.prog 69 #[.pointer (some ⟨c, 0, none⟩), .agg #[.int .u8 k, .int .i64 n, .string nm, .int .u8 tk, .string tn, .int .i64 tz, s]] w fun e w' => e = .returned (.bool (pairK k)) ∧ Below w.heap.size w w' := by
  have HB := Lib.hid (below_box w (.cells #[.int .u8 k, .int .i64 n, .string nm, .int .u8 tk, .string tn, .int .i64 tz, s] 33))
  obtain ⟨m, _, c2, hm⟩ := h.map
  have hm1 := hm.of (w' := w.alloc (.cells #[.int .u8 k, .int .i64 n, .string nm, .int .u8 tk, .string tn, .int .i64 tz, s] 33)) (Below.heap_alloc _ _ _ hm.lt)
  have hlk := look_x hm1 hx _ (rfl : (w.alloc (.cells #[.int .u8 k, .int .i64 n, .string nm, .int .u8 tk, .string tn, .int .i64 tz, s] 33)).drew.heap = _)
  have hfd : ∀ W : World, (Instr.field 103 (.agg #[.int .i64 x.args, .bool x.number, .bool x.name, .bool x.made, .string x.sign]) 4).run Tryd.prog W = .ok (.string x.sign) W := fun _ => by kernel_rfl
  have hlt := h.lt
  have HP := Lib.hid (pair_yes hx)
  clear h hx hm hm1
  by_cases he : x.sign.data.toList = []
  · have HF := Lib.hid (show pairK k = false by rw [HP.out, he]; rfl)
    have t1 := emp_yes he
    have t2 := nil_yes he
    clear he
    go_enter Tryd.func69, Tryd.ntmps69
    go_wp2_with fail
    go_region
    all_goals
      go_wp2_with fail
      go_ret
      exact ⟨ret_bool HF.out.symm, HB.out.drew⟩
  · have HF := Lib.hid (show pairK k = true by rw [HP.out]; simpa using he)
    have t1 := emp_no he
    clear he
    go_enter Tryd.func69, Tryd.ntmps69
    go_wp2_with fail
    go_region
    all_goals
      go_wp2_with fail
      go_ret
      exact ⟨ret_bool HF.out.symm, HB.out.drew⟩

theorem own7 {w : World} {b : Nat} {T : TypeId} {fr : Nat × Nat} {a0 a1 a2 a3 a4 a5 a6 : Value} (h : w.heap[b]? = some (.cells #[a0, a1, a2, a3, a4, a5, a6] T fr)) :
    w.cell? ⟨b, 0, none⟩ = some a0 ∧ w.cell? ⟨b, 1, none⟩ = some a1 ∧ w.cell? ⟨b, 2, none⟩ = some a2 ∧ w.cell? ⟨b, 3, none⟩ = some a3 ∧ w.cell? ⟨b, 4, none⟩ = some a4 ∧ w.cell? ⟨b, 5, none⟩ = some a5 ∧ w.cell? ⟨b, 6, none⟩ = some a6 :=
  ⟨by rw [Lib.cell_of_heap h]; rfl, by rw [Lib.cell_of_heap h]; rfl, by rw [Lib.cell_of_heap h]; rfl, by rw [Lib.cell_of_heap h]; rfl, by rw [Lib.cell_of_heap h]; rfl, by rw [Lib.cell_of_heap h]; rfl, by rw [Lib.cell_of_heap h]; rfl⟩

/-- Of an expression: the writer's call writes its text. -/
def EX (a : X) : Prop := ∀ (B c : Nat) (l : List UInt8) (d : Int) (w : World), Wr B c l d w → B ≤ w.heap.size → InW w B a → Knows B w → l.length + 100 * X.size a ≤ 1000000000 →
    Calls Tryd.prog 28 #[.pointer (some ⟨c, 0, none⟩), a.val] w (Wrote B c l a.txt d w)

set_option maxHeartbeats 1000000 in
theorem part_any (a : X) (hE : EX a) (b : Bool) (B c : Nat) (l : List UInt8) (d : Int) (w : World) (h : Wr B c l d w) (hBw : B ≤ w.heap.size) (hI : InW w B a) (hK : Knows B w) (hl : l.length + 100 * X.size a ≤ 999999990) (hs : a.txt.length + 40 ≤ 100 * X.size a) :
    Calls Tryd.prog 68 #[.pointer (some ⟨c, 0, none⟩), a.val, .bool b] w (Wrote B c l (partT b a.txt) d w) := by
  obtain ⟨⟨k, n, nm, tk, tn, tz⟩, s, xs⟩ := a
  have hD := (Did.refl B c w).alloc hBw (.cells #[.int .u8 k, .int .i64 n, .string nm, .int .u8 tk, .string tn, .int .i64 tz, s] 33)
  have h1 := h.alloc (.cells #[.int .u8 k, .int .i64 n, .string nm, .int .u8 tk, .string tn, .int .i64 tz, s] 33)
  have hI1 := InW.keeps hD.below _ hI
  have hK1 := hK.below hD.below
  have hc := h.lt
  show Calls Tryd.prog 68 #[.pointer (some ⟨c, 0, none⟩), .agg #[.int .u8 k, .int .i64 n, .string nm, .int .u8 tk, .string tn, .int .i64 tz, s], .bool b] w _
  cases b with
  | false =>
    have HE := Lib.hid (hE B c l d _ h1 (by simp; omega) hI1 hK1 (by omega))
    have HD := Lib.hid hD
    clear hE h h1 hI hI1 hK hK1 hD
    go_enter Tryd.func68, Tryd.ntmps68
    go_wp2_with (go_at_call 28; refine HE.out.mono ?_; rintro e w1 ⟨rfl, hW, hD⟩)
    go_end0
    exact ⟨rfl, hW, HD.out.trans hD⟩
  | true =>
    have HW := Lib.hid (write1 B c l d ⟨#[40]⟩ (w.heap.size + 1) _ (by simp) h1 (by simp; omega) (by show _ + 1 ≤ _; omega))
    have HO := Lib.hid (MapKept.heap_alloc w (.cells #[.int .u8 k, .int .i64 n, .string nm, .int .u8 tk, .string tn, .int .i64 tz, s] 33)).1
    have HD := Lib.hid hD
    have HE := Lib.hid hE
    have HI := Lib.hid hI
    have HK := Lib.hid hK
    have HS := Lib.hid hs
    clear hE h h1 hI hI1 hK hK1 hD
    go_enter Tryd.func68, Tryd.ntmps68
    go_wp2_with fail
    refine HW.out.mono ?_; rintro e w2 ⟨rfl, hW2, hD2⟩
    have hD2' := HD.out.trans hD2
    have hs2 := hD2.below.size
    simp at hs2
    have hO2 := hD2.rest _ _ _ _ HO.out (by omega) (by decide)
    have hE2 := HE.out B c _ d w2 hW2 (by omega) (InW.keeps hD2'.below _ HI.out) (HK.out.below hD2'.below) (by simp; omega)
    have HE2 := Lib.hid hE2
    have HD2 := Lib.hid hD2'
    obtain ⟨q0, q1, q2, q3, q4, q5, q6⟩ := own7 hO2
    clear hW2 hD2 hD2' hO2 hE2
    go_wp2_with fail
    refine HE2.out.mono ?_; rintro e w3 ⟨rfl, hW3, hD3⟩
    have hs3 := hD3.below.size
    have HD3 := Lib.hid (HD2.out.trans hD3)
    have HX := Lib.hid (write1 B c _ d ⟨#[41]⟩ w3.heap.size _ rfl hW3 (by omega) (by
      have := HS.out
      rw [List.length_append, List.length_append]
      show _ + 1 + _ + 1 ≤ _
      omega))
    clear hW3 hD3 q0 q1 q2 q3 q4 q5 q6
    go_wp2_with (go_at_call 36; refine HX.out.mono ?_; rintro e w4 ⟨rfl, hW4, hD4⟩)
    go_end0
    refine ⟨rfl, ?_, HD3.out.trans hD4⟩
    have e1 : l ++ partT true (X.mk ⟨k, n, nm, tk, tn, tz⟩ s xs).txt = l ++ [40] ++ (X.mk ⟨k, n, nm, tk, tn, tz⟩ s xs).txt ++ [41] := by simp [partT]
    rw [e1]
    exact hW4

theorem wants_of {h : Hd} {n : Nat} (hf : form h n = 0) : ∃ x, wants h.k = some x := by
  unfold form at hf
  split at hf
  · cases hf
  · rename_i w hw
    exact ⟨w, hw⟩

set_option maxHeartbeats 1000000 in
theorem operand_any (a : X) (hE : EX a) (hf : Fine a) (B c : Nat) (l : List UInt8) (d : Int) (w : World) (h : Wr B c l d w) (hBw : B ≤ w.heap.size) (hI : InW w B a) (hK : Knows B w) (hl : l.length + 100 * X.size a ≤ 999999990) (hs : a.txt.length + 40 ≤ 100 * X.size a) :
    Calls Tryd.prog 72 #[.pointer (some ⟨c, 0, none⟩), a.val] w (Wrote B c l (partT (pairK a.hd.k) a.txt) d w) := by
  obtain ⟨x, hx⟩ : ∃ x, wants a.hd.k = some x := by cases hf with | mk _ _ _ hform _ => exact wants_of hform
  clear hf
  have HA := Lib.hid (fun w' h1 h2 h3 h4 => part_any a hE (pairK a.hd.k) B c l d w' h1 h2 h3 h4 hl hs)
  obtain ⟨⟨k, n, nm, tk, tn, tz⟩, s, xs⟩ := a
  have hD := (Did.refl B c w).alloc hBw (.cells #[.int .u8 k, .int .i64 n, .string nm, .int .u8 tk, .string tn, .int .i64 tz, s] 33)
  have h1 := h.alloc (.cells #[.int .u8 k, .int .i64 n, .string nm, .int .u8 tk, .string tn, .int .i64 tz, s] 33)
  have HP := Lib.hid (fun w' (hw : Wr B c l d w') => pair_any B c l d k n tk tz nm tn s x w' hw hx)
  have hc := h.lt
  have H := Lib.hid h
  have HI := Lib.hid hI
  have HK := Lib.hid hK
  have HD := Lib.hid hD
  have H1 := Lib.hid h1
  show Calls Tryd.prog 72 #[.pointer (some ⟨c, 0, none⟩), .agg #[.int .u8 k, .int .i64 n, .string nm, .int .u8 tk, .string tn, .int .i64 tz, s]] w _
  clear hE hx h hI hK hD h1 hl hs
  go_enter Tryd.func72, Tryd.ntmps72
  go_wp2_with fail
  have HO := Lib.hid (MapKept.heap_alloc w (.cells #[.int .u8 k, .int .i64 n, .string nm, .int .u8 tk, .string tn, .int .i64 tz, s] 33)).1
  go_region_with (first
    | (go_at_call 69; refine (HP.out _ (H1.out.drew)).mono ?_; rintro e w2 ⟨rfl, hb2⟩; obtain ⟨q0, q1, q2, q3, q4, q5, q6⟩ := own7 ((hb2.block _ (by simp)).trans HO.out); have hs2 := hb2.size; simp at hs2; have HW2 := Lib.hid (H1.out.drew.below hb2); have HD2 := Lib.hid (HD.out.grew (by simp; omega) (Below.drew (Below.refl _ _)) |>.grew (by simp; omega) hb2); clear hb2)
    | (go_at_call 68; refine (HA.out _ HW2.out (by omega) (InW.keeps HD2.out.below _ HI.out) (HK.out.below HD2.out.below)).mono ?_; rintro e w3 ⟨rfl, hW3, hD3⟩; have HD3 := Lib.hid (HD2.out.trans hD3); have HW3 := Lib.hid hW3; clear hW3 hD3))
  all_goals
    go_end0
    exact ⟨rfl, HW3.out, HD3.out⟩
end Go.Proofs.YtflbplljlkpeiaaDoor
