/- What the show layer's writer writes of any expression that may be: its text. -/
import Derived.Test.YtflbplljlkpeiaaDoorRows
import Derived.Test.YtflbplljlkpeiaaDoorShowBinary
import Derived.Test.YtflbplljlkpeiaaDoorShowCall
import Derived.WalkKit
import Derived.WalkSpells
import Derived.WalkLawsBesides
import Derived.Lib.Hide
namespace Go.Proofs.YtflbplljlkpeiaaDoor
open Go.RowKit

set_option maxHeartbeats 1000000 in
theorem expr_nil (n tk tz : Int) (nm tn : ByteArray) (s : Value) (B c : Nat) (l : List UInt8) (d : Int) (w : World) (hw : Wr B c l d w) (hBw : B ≤ w.heap.size) (hl : l.length + 60 ≤ 1000000000) :
    Calls Tryd.prog 28 #[.pointer (some ⟨c, 0, none⟩), .agg #[.int .u8 2, .int .i64 n, .string nm, .int .u8 tk, .string tn, .int .i64 tz, s]] w (Wrote B c l ([110, 105, 108]) d w) := by
  have hc := hw.lt
  have hD := (Did.refl B c w).alloc hBw (.cells #[.int .u8 2, .int .i64 n, .string nm, .int .u8 tk, .string tn, .int .i64 tz, s] 33)
  have hw1 := hw.alloc (.cells #[.int .u8 2, .int .i64 n, .string nm, .int .u8 tk, .string tn, .int .i64 tz, s] 33)
  have HO := Lib.hid (MapKept.heap_alloc w (.cells #[.int .u8 2, .int .i64 n, .string nm, .int .u8 tk, .string tn, .int .i64 tz, s] 33)).1
  have HD := Lib.hid hD
  have HX := Lib.hid (write1 B c l d ⟨#[110, 105, 108]⟩ (w.heap.size + 1) _ (by simp) hw1 (by simp; omega) (by show _ + 3 ≤ _; omega))
  clear hw hw1 hD HO
  go_enter Tryd.func28, Tryd.ntmps28
  go_wp2_with (go_at_call 36; refine HX.out.mono ?_; rintro e w4 ⟨rfl, hW4, hD4⟩)
  go_end0
  exact ⟨rfl, hW4, HD.out.trans hD4⟩

set_option maxHeartbeats 1000000 in
theorem expr_name (n tk tz : Int) (nm tn : ByteArray) (s : Value) (B c : Nat) (l : List UInt8) (d : Int) (w : World) (hw : Wr B c l d w) (hBw : B ≤ w.heap.size) (hl : l.length + 60 ≤ 1000000000) (hn : nm.size ≤ 16) :
    Calls Tryd.prog 28 #[.pointer (some ⟨c, 0, none⟩), .agg #[.int .u8 3, .int .i64 n, .string nm, .int .u8 tk, .string tn, .int .i64 tz, s]] w (Wrote B c l (nm.data.toList) d w) := by
  have hc := hw.lt
  have hD := (Did.refl B c w).alloc hBw (.cells #[.int .u8 3, .int .i64 n, .string nm, .int .u8 tk, .string tn, .int .i64 tz, s] 33)
  have hw1 := hw.alloc (.cells #[.int .u8 3, .int .i64 n, .string nm, .int .u8 tk, .string tn, .int .i64 tz, s] 33)
  have HO := Lib.hid (MapKept.heap_alloc w (.cells #[.int .u8 3, .int .i64 n, .string nm, .int .u8 tk, .string tn, .int .i64 tz, s] 33)).1
  have HD := Lib.hid hD
  have HX := Lib.hid (write1 B c l d nm (w.heap.size + 1) _ (by simp) hw1 (by simp; omega) (by omega))
  clear hw hw1 hD HO
  go_enter Tryd.func28, Tryd.ntmps28
  go_wp2_with (go_at_call 36; refine HX.out.mono ?_; rintro e w4 ⟨rfl, hW4, hD4⟩)
  go_end0
  exact ⟨rfl, hW4, HD.out.trans hD4⟩

set_option maxHeartbeats 1000000 in
theorem expr_num (n tk tz : Int) (nm tn : ByteArray) (s : Value) (B c : Nat) (l : List UInt8) (d : Int) (w : World) (hw : Wr B c l d w) (hBw : B ≤ w.heap.size) (hK : Knows B w) (hl : l.length + 60 ≤ 1000000000) (hn0 : -9223372036854775808 ≤ n) (hn1 : n ≤ 9223372036854775807) :
    Calls Tryd.prog 28 #[.pointer (some ⟨c, 0, none⟩), .agg #[.int .u8 1, .int .i64 n, .string nm, .int .u8 tk, .string tn, .int .i64 tz, s]] w (Wrote B c l (Lib.itoa n) d w) := by
  have hc := hw.lt
  have hD := (Did.refl B c w).alloc hBw (.cells #[.int .u8 1, .int .i64 n, .string nm, .int .u8 tk, .string tn, .int .i64 tz, s] 33)
  have hw1 := hw.alloc (.cells #[.int .u8 1, .int .i64 n, .string nm, .int .u8 tk, .string tn, .int .i64 tz, s] 33)
  have HO := Lib.hid (MapKept.heap_alloc w (.cells #[.int .u8 1, .int .i64 n, .string nm, .int .u8 tk, .string tn, .int .i64 tz, s] 33)).1
  have HD := Lib.hid hD
  have HT := Lib.hid (text_any n hn0 hn1 _ (hK.below hD.below).good)
  have hz := itoa_len n hn0 hn1
  have H1 := Lib.hid hw1
  clear hw hw1 hD HO hK hn0 hn1
  go_enter Tryd.func28, Tryd.ntmps28
  go_wp2_with fail
  refine HT.out.mono ?_; rintro e w2 ⟨rfl, hb2⟩
  have hs2 := hb2.size
  simp at hs2
  have HD2 := Lib.hid (HD.out.grew (by simp; omega) hb2)
  have HX := Lib.hid (write1 B c l d ⟨(Lib.itoa n).toArray⟩ w2.heap.size w2 rfl (H1.out.below hb2) (by omega) (by show _ + (Lib.itoa n).toArray.size ≤ _; simp; omega))
  clear hb2
  go_wp2_with (go_at_call 36; refine HX.out.mono ?_; rintro e w4 ⟨rfl, hW4, hD4⟩)
  go_end0
  exact ⟨rfl, hW4, HD2.out.trans hD4⟩

set_option maxHeartbeats 1000000 in
theorem expr_new (n tk tz : Int) (nm tn : ByteArray) (s : Value) (B c : Nat) (l : List UInt8) (d : Int) (w : World) (hw : Wr B c l d w) (hBw : B ≤ w.heap.size) (hK : Knows B w) (hl : l.length + 100 ≤ 1000000000) (hn : tn.size ≤ 16) (hz0 : -9223372036854775808 ≤ tz) (hz1 : tz ≤ 9223372036854775807) :
    Calls Tryd.prog 28 #[.pointer (some ⟨c, 0, none⟩), .agg #[.int .u8 6, .int .i64 n, .string nm, .int .u8 tk, .string tn, .int .i64 tz, s]] w (Wrote B c l ([110, 101, 119, 32] ++ tyText tk tn.data.toList tz) d w) := by
  have hc := hw.lt
  have hD := (Did.refl B c w).alloc hBw (.cells #[.int .u8 6, .int .i64 n, .string nm, .int .u8 tk, .string tn, .int .i64 tz, s] 33)
  have hw1 := hw.alloc (.cells #[.int .u8 6, .int .i64 n, .string nm, .int .u8 tk, .string tn, .int .i64 tz, s] 33)
  have HO := Lib.hid (MapKept.heap_alloc w (.cells #[.int .u8 6, .int .i64 n, .string nm, .int .u8 tk, .string tn, .int .i64 tz, s] 33)).1
  have HD := Lib.hid hD
  have HX := Lib.hid (write1 B c l d ⟨#[110, 101, 119, 32]⟩ (w.heap.size + 1) _ (by simp) hw1 (by simp; omega) (by show _ + 4 ≤ _; omega))
  have HT := Lib.hid (fun w' h1 h2 h3 => tname_any B c (l ++ [110, 101, 119, 32]) d tk tz tn w' h1 h2 (by simp; omega) hz0 hz1 h3)
  have HK := Lib.hid hK
  clear hw hw1 hD hK hz0 hz1
  go_enter Tryd.func28, Tryd.ntmps28
  go_wp2_with fail
  refine HX.out.mono ?_; rintro e w2 ⟨rfl, hW2, hD2⟩
  have hs2 := hD2.below.size
  simp at hs2
  obtain ⟨q0, q1, q2, q3, q4, q5, q6⟩ := own7 (hD2.rest _ _ _ _ HO.out (by omega) (by decide))
  have hD2' := HD.out.trans hD2
  have HTT := Lib.hid (HT.out w2 hW2 (by omega) (HK.out.below hD2'.below))
  have HD2 := Lib.hid hD2'
  clear hW2 hD2 hD2'
  go_wp2_with (go_at_call 18; refine HTT.out.mono ?_; rintro e w4 hq; obtain ⟨rfl, hW4, hD4⟩ := wrote_more hq HD2.out)
  go_end0
  exact ⟨rfl, hW4, hD4⟩

set_option maxHeartbeats 1000000 in
theorem expr_call (n tk tz : Int) (nm tn : ByteArray) (s : Value) (t : List UInt8) (B c : Nat) (l : List UInt8) (d : Int) (w : World) (hw : Wr B c l d w) (hBw : B ≤ w.heap.size) (hC : ∀ w', Wr B c l d w' → Did B c w w' → B ≤ w'.heap.size → Calls Tryd.prog 48 #[.pointer (some ⟨c, 0, none⟩), .agg #[.int .u8 7, .int .i64 n, .string nm, .int .u8 tk, .string tn, .int .i64 tz, s]] w' (Wrote B c l t d w')) :
    Calls Tryd.prog 28 #[.pointer (some ⟨c, 0, none⟩), .agg #[.int .u8 7, .int .i64 n, .string nm, .int .u8 tk, .string tn, .int .i64 tz, s]] w (Wrote B c l (t) d w) := by
  have hc := hw.lt
  have hD := (Did.refl B c w).alloc hBw (.cells #[.int .u8 7, .int .i64 n, .string nm, .int .u8 tk, .string tn, .int .i64 tz, s] 33)
  have hw1 := hw.alloc (.cells #[.int .u8 7, .int .i64 n, .string nm, .int .u8 tk, .string tn, .int .i64 tz, s] 33)
  have HO := Lib.hid (MapKept.heap_alloc w (.cells #[.int .u8 7, .int .i64 n, .string nm, .int .u8 tk, .string tn, .int .i64 tz, s] 33)).1
  have HD := Lib.hid hD
  have HC := Lib.hid (hC _ hw1 hD (by simp; omega))
  clear hw hw1 hD hC
  go_enter Tryd.func28, Tryd.ntmps28
  go_wp2_with (go_at_call 48; refine HC.out.mono ?_; rintro e w4 ⟨rfl, hW4, hD4⟩)
  go_end0
  exact ⟨rfl, hW4, HD.out.trans hD4⟩

set_option maxHeartbeats 1000000 in
theorem expr_signed (k n tk tz : Int) (nm tn : ByteArray) (s : Value) (t : List UInt8) (B c : Nat) (l : List UInt8) (d : Int) (w : World) (hw : Wr B c l d w) (hBw : B ≤ w.heap.size) (h1 : ¬ k = 1) (h2 : ¬ k = 2) (h3 : ¬ k = 3) (h4 : ¬ k = 4) (h5 : ¬ k = 5) (h6 : ¬ k = 6) (h7 : ¬ k = 7) (hC : ∀ w', Wr B c l d w' → Did B c w w' → B ≤ w'.heap.size → Calls Tryd.prog 49 #[.pointer (some ⟨c, 0, none⟩), .agg #[.int .u8 k, .int .i64 n, .string nm, .int .u8 tk, .string tn, .int .i64 tz, s]] w' (Wrote B c l t d w')) :
    Calls Tryd.prog 28 #[.pointer (some ⟨c, 0, none⟩), .agg #[.int .u8 k, .int .i64 n, .string nm, .int .u8 tk, .string tn, .int .i64 tz, s]] w (Wrote B c l (t) d w) := by
  have e1 : (k == 1) = false := beq_eq_false_iff_ne.2 h1
  have e2 : (k == 2) = false := beq_eq_false_iff_ne.2 h2
  have e3 : (k == 3) = false := beq_eq_false_iff_ne.2 h3
  have e4 : (k == 4) = false := beq_eq_false_iff_ne.2 h4
  have e5 : (k == 5) = false := beq_eq_false_iff_ne.2 h5
  have e6 : (k == 6) = false := beq_eq_false_iff_ne.2 h6
  have e7 : (k == 7) = false := beq_eq_false_iff_ne.2 h7
  clear h1 h2 h3 h4 h5 h6 h7
  have hc := hw.lt
  have hD := (Did.refl B c w).alloc hBw (.cells #[.int .u8 k, .int .i64 n, .string nm, .int .u8 tk, .string tn, .int .i64 tz, s] 33)
  have hw1 := hw.alloc (.cells #[.int .u8 k, .int .i64 n, .string nm, .int .u8 tk, .string tn, .int .i64 tz, s] 33)
  have HO := Lib.hid (MapKept.heap_alloc w (.cells #[.int .u8 k, .int .i64 n, .string nm, .int .u8 tk, .string tn, .int .i64 tz, s] 33)).1
  have HD := Lib.hid hD
  have HC := Lib.hid (hC _ hw1 hD (by simp; omega))
  clear hw hw1 hD hC
  go_enter Tryd.func28, Tryd.ntmps28
  go_wp2_with (go_at_call 49; refine HC.out.mono ?_; rintro e w4 ⟨rfl, hW4, hD4⟩)
  go_end0
  exact ⟨rfl, hW4, HD.out.trans hD4⟩

set_option maxHeartbeats 1000000 in
theorem expr_field (n tk tz : Int) (nm tn : ByteArray) (B c : Nat) (l : List UInt8) (d : Int) (w : World) (hw : Wr B c l d w) (hBw : B ≤ w.heap.size) (g off m cap : Nat) (a : X) (ao : Option Addr) (n2 c2 : Nat) (hg : g < B) (hm : 1 ≤ m) (hm2 : m ≤ 9223372036854775807) (ea : a.s = .slice ao n2 c2) (p0 : w.cell? ⟨g, off, none⟩ = some (.int .u8 a.hd.k)) (p1 : w.cell? ⟨g, off + 1, none⟩ = some (.int .i64 a.hd.n)) (p2 : w.cell? ⟨g, off + 2, none⟩ = some (.string a.hd.name)) (p3 : w.cell? ⟨g, off + 3, none⟩ = some (.int .u8 a.hd.tk)) (p4 : w.cell? ⟨g, off + 4, none⟩ = some (.string a.hd.tn)) (p5 : w.cell? ⟨g, off + 5, none⟩ = some (.int .i64 a.hd.tz)) (p6 : w.cell? ⟨g, off + 6, none⟩ = some (.slice ao n2 c2)) (hE : EX a) (hf : Fine a) (hI : InW w B a) (hK : Knows B w) (hl : l.length + 100 + 100 * X.size a ≤ 1000000000) (hs : a.txt.length + 40 ≤ 100 * X.size a) (hn : nm.size ≤ 16) :
    Calls Tryd.prog 28 #[.pointer (some ⟨c, 0, none⟩), .agg #[.int .u8 4, .int .i64 n, .string nm, .int .u8 tk, .string tn, .int .i64 tz, .slice (some ⟨g, off, none⟩) m cap]] w (Wrote B c l (partT (headK a.hd.k) a.txt ++ ([46] ++ nm.data.toList)) d w) := by
  have hc := hw.lt
  have hD := (Did.refl B c w).alloc hBw (.cells #[.int .u8 4, .int .i64 n, .string nm, .int .u8 tk, .string tn, .int .i64 tz, .slice (some ⟨g, off, none⟩) m cap] 33)
  have hw1 := hw.alloc (.cells #[.int .u8 4, .int .i64 n, .string nm, .int .u8 tk, .string tn, .int .i64 tz, .slice (some ⟨g, off, none⟩) m cap] 33)
  have HO := Lib.hid (MapKept.heap_alloc w (.cells #[.int .u8 4, .int .i64 n, .string nm, .int .u8 tk, .string tn, .int .i64 tz, .slice (some ⟨g, off, none⟩) m cap] 33)).1
  have HD := Lib.hid hD
  have hgs : g < w.heap.size := by omega
  have hA := head_any a hE hf B c l d _ hw1 (by simp; omega) (InW.keeps hD.below _ hI) (hK.below hD.below) (by omega) hs
  rw [val_of ea] at hA
  have HA := Lib.hid hA
  have hpl := part_len (headK a.hd.k) a.txt
  clear hw hw1 hD hA ea hE hf hI hK
  go_enter Tryd.func28, Tryd.ntmps28
  go_wp2_with fail
  refine HA.out.mono ?_; rintro e w3 ⟨rfl, hW3, hD3⟩
  have hs3 := hD3.below.size
  simp at hs3
  obtain ⟨q0, q1, q2, q3, q4, q5, q6⟩ := own7 (hD3.rest _ _ _ _ HO.out (by omega) (by decide))
  have HX := Lib.hid (write2 B c _ d ⟨#[46]⟩ nm w3.heap.size w3 rfl hW3 (by omega) (by rw [List.length_append]; show _ + (1 + _) ≤ _; omega))
  have HD3 := Lib.hid (HD.out.trans hD3)
  clear hW3 hD3
  go_wp2_with (go_at_call 36; refine HX.out.mono ?_; rintro e w4 hq; obtain ⟨rfl, hW4, hD4⟩ := wrote_more hq HD3.out)
  go_end0
  exact ⟨rfl, hW4, hD4⟩

set_option maxHeartbeats 1000000 in
theorem expr_index (n tk tz : Int) (nm tn : ByteArray) (B c : Nat) (l : List UInt8) (d : Int) (w : World) (hw : Wr B c l d w) (hBw : B ≤ w.heap.size) (g off m cap : Nat) (a : X) (ao : Option Addr) (n2 c2 : Nat) (hg : g < B) (hm : 1 ≤ m) (hm2 : m ≤ 9223372036854775807) (ea : a.s = .slice ao n2 c2) (p0 : w.cell? ⟨g, off, none⟩ = some (.int .u8 a.hd.k)) (p1 : w.cell? ⟨g, off + 1, none⟩ = some (.int .i64 a.hd.n)) (p2 : w.cell? ⟨g, off + 2, none⟩ = some (.string a.hd.name)) (p3 : w.cell? ⟨g, off + 3, none⟩ = some (.int .u8 a.hd.tk)) (p4 : w.cell? ⟨g, off + 4, none⟩ = some (.string a.hd.tn)) (p5 : w.cell? ⟨g, off + 5, none⟩ = some (.int .i64 a.hd.tz)) (p6 : w.cell? ⟨g, off + 6, none⟩ = some (.slice ao n2 c2)) (b : X) (hE : EX a) (hE2 : EX b) (hf : Fine a) (hm3 : 2 ≤ m) (hI : InW w B (.mk ⟨5, n, nm, tk, tn, tz⟩ (.slice (some ⟨g, off, none⟩) m cap) [a, b])) (hK : Knows B w) (hl : l.length + 100 + (100 * X.size a + 100 * X.size b) ≤ 1000000000) (hs : a.txt.length + 40 ≤ 100 * X.size a) (hs2 : b.txt.length + 40 ≤ 100 * X.size b) :
    Calls Tryd.prog 28 #[.pointer (some ⟨c, 0, none⟩), .agg #[.int .u8 5, .int .i64 n, .string nm, .int .u8 tk, .string tn, .int .i64 tz, .slice (some ⟨g, off, none⟩) m cap]] w (Wrote B c l (partT (headK a.hd.k) a.txt ++ ([91] ++ (b.txt ++ [93]))) d w) := by
  have hc := hw.lt
  have hD := (Did.refl B c w).alloc hBw (.cells #[.int .u8 5, .int .i64 n, .string nm, .int .u8 tk, .string tn, .int .i64 tz, .slice (some ⟨g, off, none⟩) m cap] 33)
  have hw1 := hw.alloc (.cells #[.int .u8 5, .int .i64 n, .string nm, .int .u8 tk, .string tn, .int .i64 tz, .slice (some ⟨g, off, none⟩) m cap] 33)
  have HO := Lib.hid (MapKept.heap_alloc w (.cells #[.int .u8 5, .int .i64 n, .string nm, .int .u8 tk, .string tn, .int .i64 tz, .slice (some ⟨g, off, none⟩) m cap] 33)).1
  have HD := Lib.hid hD
  have hgs : g < w.heap.size := by omega
  have hA := head_any a hE hf B c l d _ hw1 (by simp; omega) (InW.keeps hD.below _ ((in_kids hI).2 a (by simp))) (hK.below hD.below) (by omega) hs
  rw [val_of ea] at hA
  have HA := Lib.hid hA
  have hpl := part_len (headK a.hd.k) a.txt
  have HI := Lib.hid hI
  have HK := Lib.hid hK
  have HE := Lib.hid hE2
  clear hw hw1 hD hA ea hE hE2 hf hI hK
  go_enter Tryd.func28, Tryd.ntmps28
  go_wp2_with fail
  refine HA.out.mono ?_; rintro e w3 ⟨rfl, hW3, hD3⟩
  have hs3 := hD3.below.size
  simp at hs3
  have hO3 := hD3.rest _ _ _ _ HO.out (by omega) (by decide)
  have HX := Lib.hid (write1 B c _ d ⟨#[91]⟩ w3.heap.size w3 rfl hW3 (by omega) (by rw [List.length_append]; show _ + 1 ≤ _; omega))
  have HD3 := Lib.hid (HD.out.trans hD3)
  have HO3 := Lib.hid hO3
  clear hW3 hD3 hO3 p0 p1 p2 p3 p4 p5 p6
  go_wp2_with fail
  refine HX.out.mono ?_; rintro e w4 ⟨rfl, hW4, hD4⟩
  have hs4 := hD4.below.size
  have hO4 := hD4.rest _ _ _ _ HO3.out (by omega) (by decide)
  obtain ⟨q0, q1, q2, q3, q4, q5, q6⟩ := own7 hO4
  have hD4' := HD3.out.trans hD4
  obtain ⟨ao', n2', c2', eb, p0, p1, p2, p3, p4, p5, p6⟩ := kid1 (InW.keeps hD4'.below _ HI.out) rfl
  have hB := HE.out B c _ d w4 hW4 (by omega) (InW.keeps hD4'.below _ ((in_kids HI.out).2 b (by simp))) (HK.out.below hD4'.below) (by simp only [List.length_append]; show l.length + _ + 1 + _ ≤ _; omega)
  rw [val_of eb] at hB
  have HB := Lib.hid hB
  have HD4 := Lib.hid hD4'
  have HO4 := Lib.hid hO4
  clear hW4 hD4 hO4 hD4' hB eb
  go_wp2_with fail
  refine HB.out.mono ?_; rintro e w5 ⟨rfl, hW5, hD5⟩
  have hs5 := hD5.below.size
  have HX5 := Lib.hid (write1 B c _ d ⟨#[93]⟩ w5.heap.size w5 rfl hW5 (by omega) (by simp only [List.length_append]; show l.length + _ + 1 + _ + 1 ≤ _; omega))
  have HD5 := Lib.hid (HD4.out.trans hD5)
  clear hW5 hD5 p0 p1 p2 p3 p4 p5 p6 q0 q1 q2 q3 q4 q5 q6
  go_wp2_with fail
  refine HX5.out.mono ?_; rintro e w6 ⟨rfl, hW6, hD6⟩
  go_wp2_with fail
  go_end0
  refine ⟨rfl, ?_, HD5.out.trans hD6⟩
  simpa [List.append_assoc] using hW6


theorem args_list {h : Hd} {s : Value} {l : List X} (hf : Fine (.mk h s l)) {k : Int} (hk : h.k = k) {x : Wx} (hx : wants k = some x) (m : Nat) (hm : x.args = (m : Int)) : l.length = m := args_at (fine_kids hf).1 hk hx m hm
theorem one_of {l : List X} (h : l.length = 1) : ∃ a, l = [a] := by
  match l, h with
  | [a], _ => exact ⟨a, rfl⟩
theorem two_of {l : List X} (h : l.length = 2) : ∃ a b, l = [a, b] := by
  match l, h with
  | [a, b], _ => exact ⟨a, b, rfl⟩
/-- A kind from 10 on wants two parts. -/
theorem wants_two {k : Int} {x : Wx} (hx : wants k = some x) (h : ¬ k = 1 ∧ ¬ k = 2 ∧ ¬ k = 3 ∧ ¬ k = 4 ∧ ¬ k = 5 ∧ ¬ k = 6 ∧ ¬ k = 7 ∧ ¬ k = 8 ∧ ¬ k = 9) : x.args = 2 := by
  unfold wants at hx
  split at hx
  · have hlt : (k - 1).toNat < 22 := by
      rcases Nat.lt_or_ge (k - 1).toNat 22 with h' | h'
      · exact h'
      · rw [List.getElem?_eq_none (by show 22 ≤ _; exact h')] at hx; cases hx
    have hge : 9 ≤ (k - 1).toNat := by omega
    have hall : ∀ i < 22, 9 ≤ i → (wxs[i]?).map Wx.args = some 2 := by decide
    have := hall _ hlt hge
    rw [hx] at this
    simpa using this
  · cases hx

theorem expr_all : ∀ x, Fine x → EX x := by
  refine X.ind fun h s xs ih hf => ?_
  intro B c l d w hw hBw hI hK hl
  obtain ⟨hform, hfk⟩ := fine_kids hf
  obtain ⟨hok, hik⟩ := in_kids hI
  have hs : ∀ a ∈ xs, a.txt.length + 40 ≤ 100 * X.size a := fun a ha => txt_short a (hfk a ha) (hik a ha)
  have hE : ∀ a ∈ xs, EX a := fun a ha => ih a ha (hfk a ha)
  have hnm := form_name hform
  obtain ⟨ht1, ht2, ht3⟩ := form_type hform
  rw [size_of] at hnm ht1
  have hl0 := hl
  rw [size_mk] at hl
  rw [txt_mk]
  have hsig := fun (w' : World) (h1 : Did B c w w') => (⟨InW.keeps h1.below _ hI, hK.below h1.below⟩ : InW w' B (.mk h s xs) ∧ Knows B w')
  by_cases h1 : h.k = 1
  · rw [show nodeT h xs (txts xs) = Lib.itoa h.n by simp [nodeT, h1]]
    have := expr_num h.n h.tk h.tz h.name h.tn s B c l d w hw hBw hK (by omega) hok.n.1 hok.n.2
    rw [← h1] at this
    exact this
  by_cases h2 : h.k = 2
  · rw [show nodeT h xs (txts xs) = [110, 105, 108] by simp [nodeT, h2]]
    have := expr_nil h.n h.tk h.tz h.name h.tn s B c l d w hw hBw (by omega)
    rw [← h2] at this
    exact this
  by_cases h3 : h.k = 3
  · rw [show nodeT h xs (txts xs) = h.name.data.toList by simp [nodeT, h3]]
    have := expr_name h.n h.tk h.tz h.name h.tn s B c l d w hw hBw (by omega) hnm
    rw [← h3] at this
    exact this
  by_cases h4 : h.k = 4
  · obtain ⟨a, rfl⟩ := one_of (args_list hf h4 (x := ⟨1, false, true, false, ⟨#[]⟩⟩) rfl 1 rfl)
    obtain ⟨g, off, cap, ao, n2, c2, rfl, hg, hlen, ea, p0, p1, p2, p3, p4, p5, p6⟩ := kid0 hI
    rw [sizes_cons, sizes_nil] at hl
    rw [show nodeT h [a] (txts [a]) = partT (headK a.hd.k) a.txt ++ ([46] ++ h.name.data.toList) by rw [txts_cons]; simp [nodeT, h4, kdAt, txAt]]
    have := expr_field h.n h.tk h.tz h.name h.tn B c l d w hw hBw g off _ cap a ao n2 c2 hg (by simp) hlen ea p0 p1 p2 p3 p4 p5 p6 (hE a (by simp)) (hfk a (by simp)) (hik a (by simp)) hK (by omega) (hs a (by simp)) hnm
    rw [← h4] at this
    exact this
  by_cases h5 : h.k = 5
  · obtain ⟨a, b, rfl⟩ := two_of (args_list hf h5 (x := ⟨2, false, false, false, ⟨#[]⟩⟩) rfl 2 rfl)
    obtain ⟨g, off, cap, ao, n2, c2, rfl, hg, hlen, ea, p0, p1, p2, p3, p4, p5, p6⟩ := kid0 hI
    rw [sizes_cons, sizes_cons, sizes_nil] at hl
    rw [show nodeT h [a, b] (txts [a, b]) = partT (headK a.hd.k) a.txt ++ ([91] ++ (b.txt ++ [93])) by rw [txts_cons, txts_cons]; simp [nodeT, h5, kdAt, txAt]]
    obtain ⟨k, n, nm, tk, tn, tz⟩ := h
    obtain rfl : k = 5 := h5
    exact expr_index n tk tz nm tn B c l d w hw hBw g off _ cap a ao n2 c2 hg (by simp) hlen ea p0 p1 p2 p3 p4 p5 p6 b (hE a (by simp)) (hE b (by simp)) (hfk a (by simp)) (by simp) hI hK (by omega) (hs a (by simp)) (hs b (by simp))
  by_cases h6 : h.k = 6
  · rw [show nodeT h xs (txts xs) = [110, 101, 119, 32] ++ tyText h.tk h.tn.data.toList h.tz by simp [nodeT, h6]]
    have := expr_new h.n h.tk h.tz h.name h.tn s B c l d w hw hBw hK (by omega) ht1 hok.tz.1 hok.tz.2
    rw [← h6] at this
    exact this
  by_cases h7 : h.k = 7
  · rw [show nodeT h xs (txts xs) = (h.name.data.toList ++ [40]) ++ (commas (txts xs) ++ [41]) by simp [nodeT, h7]]
    have hC := fun (w' : World) (g1 : Wr B c l d w') (g2 : Did B c w w') (g3 : B ≤ w'.heap.size) => call_any h s xs hE hf B c l d w' g1 g3 (hsig w' g2).1 (hsig w' g2).2 hl0 hs
    obtain ⟨k, n, nm, tk, tn, tz⟩ := h
    obtain rfl : k = 7 := h7
    exact expr_call n tk tz nm tn s _ B c l d w hw hBw hC
  by_cases h8 : h.k = 8
  · obtain ⟨a, rfl⟩ := one_of (args_list hf h8 (x := ⟨1, false, false, false, ⟨#[]⟩⟩) rfl 1 rfl)
    rw [show nodeT h [a] (txts [a]) = [45] ++ partT (pairK a.hd.k || digs [a]) a.txt by rw [txts_cons]; simp [nodeT, h8, kdAt, txAt]]
    exact expr_signed h.k h.n h.tk h.tz h.name h.tn s _ B c l d w hw hBw h1 h2 h3 h4 h5 h6 h7 fun w' g1 g2 g3 => signed_neg h s a [] (hE a (by simp)) h8 hf B c l d w' g1 g3 (hsig w' g2).1 (hsig w' g2).2 hl0 (hs a (by simp))
  by_cases h9 : h.k = 9
  · obtain ⟨a, rfl⟩ := one_of (args_list hf h9 (x := ⟨1, false, false, false, ⟨#[]⟩⟩) rfl 1 rfl)
    rw [show nodeT h [a] (txts [a]) = [33] ++ partT (pairK a.hd.k) a.txt by rw [txts_cons]; simp [nodeT, h9, kdAt, txAt]]
    exact expr_signed h.k h.n h.tk h.tz h.name h.tn s _ B c l d w hw hBw h1 h2 h3 h4 h5 h6 h7 fun w' g1 g2 g3 => signed_not h s a [] (hE a (by simp)) h9 hf B c l d w' g1 g3 (hsig w' g2).1 (hsig w' g2).2 hl0 (hs a (by simp))
  obtain ⟨x, hx⟩ := wants_of hform
  have hx2 := wants_two hx ⟨h1, h2, h3, h4, h5, h6, h7, h8, h9⟩
  obtain ⟨a, b, rfl⟩ := two_of (args_list hf rfl hx 2 hx2)
  rw [show nodeT h [a, b] (txts [a, b]) = partT (pairK a.hd.k) a.txt ++ (([32] ++ ((signK h.k).data.toList ++ [32])) ++ partT (pairK b.hd.k) b.txt) by rw [txts_cons, txts_cons]; simp [nodeT, h1, h2, h3, h4, h5, h6, h7, h8, h9, kdAt, txAt]]
  exact expr_signed h.k h.n h.tk h.tz h.name h.tn s _ B c l d w hw hBw h1 h2 h3 h4 h5 h6 h7 fun w' g1 g2 g3 => signed_pair h s a b (hE a (by simp)) (hE b (by simp)) x hx h8 h9 hf B c l d w' g1 g3 (hsig w' g2).1 (hsig w' g2).2 hl0 (hs a (by simp)) (hs b (by simp))
end Go.Proofs.YtflbplljlkpeiaaDoor
