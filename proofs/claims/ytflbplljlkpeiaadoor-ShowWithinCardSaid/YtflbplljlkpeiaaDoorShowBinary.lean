/- What the show layer's writer writes of an expression of two operands with a sign between. -/
import Derived.Test.YtflbplljlkpeiaaDoorRows
import Derived.Test.YtflbplljlkpeiaaDoorShowSigned
import Derived.Deep.DrawnRows
import Derived.RegionTactic
import Derived.WalkKit
import Derived.WalkSpells
import Derived.WalkLawsBesides
import Derived.Lib.Hide
namespace Go.Proofs.YtflbplljlkpeiaaDoor
open Go.RowKit
attribute [local go_sem ↓] Go.wp_at_zero Go.wp_at_succ

/-- The second part of an expression, as it lies in memory beside the first. -/
theorem kid1 {w : World} {B : Nat} {h : Hd} {s : Value} {a b : X} {r : List X} (hI : InW w B (.mk h s (a :: b :: r))) {g off len cap : Nat} (hs : s = .slice (some ⟨g, off, none⟩) len cap) : ∃ ao n2 c2, b.s = .slice ao n2 c2 ∧
    w.cell? ⟨g, off + 7, none⟩ = some (.int .u8 b.hd.k) ∧ w.cell? ⟨g, off + 7 + 1, none⟩ = some (.int .i64 b.hd.n) ∧ w.cell? ⟨g, off + 7 + 2, none⟩ = some (.string b.hd.name) ∧ w.cell? ⟨g, off + 7 + 3, none⟩ = some (.int .u8 b.hd.tk) ∧
    w.cell? ⟨g, off + 7 + 4, none⟩ = some (.string b.hd.tn) ∧ w.cell? ⟨g, off + 7 + 5, none⟩ = some (.int .i64 b.hd.tz) ∧ w.cell? ⟨g, off + 7 + 6, none⟩ = some (.slice ao n2 c2) := by
  cases hI with
  | mk _ _ _ _ hl hin =>
    obtain ⟨ao, n2, c2, e⟩ := slice_of (hin b (by simp))
    obtain ⟨ao', cap', hs', _, hl⟩ := hl
    rcases hl with hl | ⟨g', off', e1, _, hc⟩
    · cases hl
    rw [hs] at hs'
    injection hs' with e2 _ _
    rw [e1] at e2
    cases e2
    have hb : ∀ j u, b.cells[j]? = some u → w.cell? ⟨g, off + 7 + j, none⟩ = some u := fun j u hu => by
      have := hc 1 b rfl j u hu
      rw [show off + (1 * 7 + j) = off + 7 + j by omega] at this
      exact this
    obtain ⟨p0, p1, p2, p3, p4, p5, p6⟩ := cells7 hb
    exact ⟨ao, n2, c2, e, p0, p1, p2, p3, p4, p5, by rw [← e]; exact p6⟩

set_option maxHeartbeats 2000000 in
theorem signed_pair (h : Hd) (s : Value) (a b : X) (hE : EX a) (hE2 : EX b) (x : Wx) (hx : wants h.k = some x) (hk8 : ¬ h.k = 8) (hk9 : ¬ h.k = 9) (hf : Fine (.mk h s [a, b])) (B c : Nat) (l : List UInt8) (d : Int) (w : World) (hw : Wr B c l d w) (hBw : B ≤ w.heap.size) (hI : InW w B (.mk h s [a, b])) (hK : Knows B w)
    (hl : l.length + 100 * X.size (.mk h s [a, b]) ≤ 1000000000) (hs : a.txt.length + 40 ≤ 100 * X.size a) (hs2 : b.txt.length + 40 ≤ 100 * X.size b) :
    Calls Tryd.prog 49 #[.pointer (some ⟨c, 0, none⟩), X.val (.mk h s [a, b])] w (Wrote B c l (partT (pairK a.hd.k) a.txt ++ (([32] ++ ((signK h.k).data.toList ++ [32])) ++ partT (pairK b.hd.k) b.txt)) d w) := by
  have hsk : signK h.k = x.sign := by unfold signK; rw [hx]; rfl
  have hsl := sign_short h.k
  rw [hsk] at hsl ⊢
  obtain ⟨k, n, nm, tk, tn, tz⟩ := h
  obtain ⟨g, off, cap, ao, n2, c2, rfl, hg, hlen, ea, p0, p1, p2, p3, p4, p5, p6⟩ := kid0 hI
  have q8 : (k == 8) = false := beq_eq_false_iff_ne.2 hk8
  have q9 : (k == 9) = false := beq_eq_false_iff_ne.2 hk9
  have hc := hw.lt
  have hgs : g < w.heap.size := by omega
  rw [size_mk, sizes_cons, sizes_cons, sizes_nil] at hl
  obtain ⟨W1, hW1⟩ : ∃ W1, W1 = (w.alloc (.cells #[.int .u8 k, .int .i64 n, .string nm, .int .u8 tk, .string tn, .int .i64 tz, .slice (some ⟨g, off, none⟩) ([b].length + 1) cap] 33)).alloc (.cells #[.int .u8 a.hd.k, .int .i64 a.hd.n, .string a.hd.name, .int .u8 a.hd.tk, .string a.hd.tn, .int .i64 a.hd.tz, .slice ao n2 c2] 33) := ⟨_, rfl⟩
  have hz1 : W1.heap.size = w.heap.size + 2 := by rw [hW1]; simp
  have hD : Did B c w W1 := by rw [hW1]; exact ((Did.refl B c w).alloc hBw _).alloc (by simp; omega) _
  have hw1 : Wr B c l d W1 := by rw [hW1]; exact (hw.alloc _).alloc _
  have hOX : W1.heap[w.heap.size]? = some (.cells #[.int .u8 k, .int .i64 n, .string nm, .int .u8 tk, .string tn, .int .i64 tz, .slice (some ⟨g, off, none⟩) ([b].length + 1) cap] 33 (0, 0)) := by
    rw [hW1, Below.heap_alloc _ _ _ (by simp)]
    exact (MapKept.heap_alloc _ _).1
  have hA := operand_any a hE ((fine_kids hf).2 a (by simp)) B c l d W1 hw1 (by omega) (InW.keeps hD.below _ ((in_kids hI).2 a (by simp))) (hK.below hD.below) (by omega) hs
  rw [val_of ea, hW1] at hA
  have HA := Lib.hid hA
  have HOX := Lib.hid hOX
  have HD := Lib.hid hD
  have HB := Lib.hid (fun l' w' h1 h2 h3 h4 h5 => operand_any b hE2 ((fine_kids hf).2 b (by simp)) B c l' d w' h1 h2 h3 h4 h5 hs2)
  have HI := Lib.hid hI
  have HK := Lib.hid hK
  have HZ := Lib.hid hW1
  have HX := Lib.hid hx
  have hpl := part_len (pairK a.hd.k) a.txt
  show Calls Tryd.prog 49 #[.pointer (some ⟨c, 0, none⟩), .agg #[.int .u8 k, .int .i64 n, .string nm, .int .u8 tk, .string tn, .int .i64 tz, .slice (some ⟨g, off, none⟩) ([b].length + 1) cap]] w _
  clear hw hI hK hE hE2 hf ea hA hOX hD hw1 hW1 hx hsk hk8 hk9
  go_enter Tryd.func49, Tryd.ntmps49
  go_wp2_with fail
  refine HA.out.mono ?_; rintro e w3 ⟨rfl, hW3, hD3⟩
  rw [← HZ.out] at hD3
  have hs3 := hD3.below.size
  have hO3 := hD3.rest _ _ _ _ HOX.out (by omega) (by decide)
  obtain ⟨u0, u1, u2, u3, u4, u5, u6⟩ := own7 hO3
  obtain ⟨m, _, cm, hm⟩ := hW3.map
  have hlk := look_x hm HX.out w3.drew rfl
  have hfd : ∀ W : World, (Instr.field 103 (.agg #[.int .i64 x.args, .bool x.number, .bool x.name, .bool x.made, .string x.sign]) 4).run Tryd.prog W = .ok (.string x.sign) W := fun _ => by kernel_rfl
  have HD3 := Lib.hid (HD.out.trans hD3)
  have HO3 := Lib.hid hO3
  have HW3 := Lib.hid hW3
  have hsz : x.sign.size ≤ 2 := by rw [← size_of]; exact hsl
  have HR := Lib.hid (write3 B c _ d ⟨#[32]⟩ x.sign ⟨#[32]⟩ w3.heap.size w3.drew rfl hW3.drew (by show B ≤ w3.heap.size; omega) (by rw [List.length_append]; show _ + (1 + (_ + 1)) ≤ _; omega))
  clear hW3 hD3 hO3 hm hsl
  go_wp2_with fail
  go_region_with (go_at_call 36; refine HR.out.mono ?_; rintro e w5 ⟨rfl, hW5, hD5⟩; have HW5 := Lib.hid hW5; have HD5 := Lib.hid hD5; clear hW5 hD5)
  all_goals
    have hD5 := (⟨HD3.out.below.drew, HD3.out.rest⟩ : Did B c w w3.drew).trans HD5.out
    have hs5 := HD5.out.below.size
    have hs5' : w3.heap.size ≤ w5.heap.size := hs5
    clear hs5 u0 u1 u2 u3 u4 u5 u6 cm hlk hfd p0 p1 p2 p3 p4 p5 p6
    have hO5 := HD5.out.rest _ _ _ _ HO3.out (by omega) (by decide)
    obtain ⟨-, -, -, -, -, -, u6⟩ := own7 hO5
    obtain ⟨ao', n2', c2', eb, p0, p1, p2, p3, p4, p5, p6⟩ := kid1 (InW.keeps hD5.below _ HI.out) rfl
    have hB := HB.out _ w5 HW5.out (by omega) (InW.keeps hD5.below _ ((in_kids HI.out).2 b (by simp))) (HK.out.below hD5.below) (by
      simp only [List.length_append, size_of]
      show l.length + _ + (1 + (_ + 1)) + _ ≤ _
      omega)
    rw [val_of eb] at hB
    have HBB := Lib.hid hB
    have HD6 := Lib.hid hD5
    have hlen' : ([b].length : Nat) + 1 = 2 := rfl
    clear hO5 eb hB hD5 hs5' hlen'
    go_wp2_with fail
    refine HBB.out.mono ?_; rintro e w6 ⟨rfl, hW6, hD7⟩
    go_wp2_with fail
    go_end0
    refine ⟨rfl, ?_, HD6.out.trans hD7⟩
    simpa [List.append_assoc] using hW6
end Go.Proofs.YtflbplljlkpeiaaDoor
