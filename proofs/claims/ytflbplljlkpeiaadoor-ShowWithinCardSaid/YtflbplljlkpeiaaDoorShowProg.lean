/- A statement that tells an expression, an atomic block without statements, and a program of one such thread as the show layer's writer writes them. -/
import Derived.Test.YtflbplljlkpeiaaDoorRows
import Derived.Test.YtflbplljlkpeiaaDoorShowLines
import Derived.Test.YtflbplljlkpeiaaDoorShowExpr
import Derived.Test.YtflbplljlkpeiaaDoorShowNone
import Derived.LoopTactic
import Derived.LoopN
import Derived.WalkKit
import Derived.WalkSpells
import Derived.WalkLawsBesides
import Derived.Lib.Hide
namespace Go.Proofs.YtflbplljlkpeiaaDoor
open Go.RowKit

set_option maxHeartbeats 1000000 in
/-- An expression, and what stands ahead of it. -/
theorem behind_any (x : X) (ao : Option Addr) (m cap : Nat) (hx : x.s = .slice ao m cap) (hn : noneH x.hd m = false) (hE : EX x) (B c : Nat) (l a : List UInt8) (d : Int) (w : World) (h : Wr B c l d w) (hBw : B ≤ w.heap.size) (hI : InW w B x) (hK : Knows B w) (hl : l.length + a.length + 100 * X.size x ≤ 1000000000) :
    Calls Tryd.prog 88 #[.pointer (some ⟨c, 0, none⟩), .string ⟨a.toArray⟩, .agg #[.int .u8 x.hd.k, .int .i64 x.hd.n, .string x.hd.name, .int .u8 x.hd.tk, .string x.hd.tn, .int .i64 x.hd.tz, .slice ao m cap]] w (Wrote B c l (a ++ x.txt) d w) := by
  have hlt := h.lt
  obtain ⟨W1, hW1⟩ : ∃ W1, W1 = w.alloc (.cells #[.int .u8 x.hd.k, .int .i64 x.hd.n, .string x.hd.name, .int .u8 x.hd.tk, .string x.hd.tn, .int .i64 x.hd.tz, .slice ao m cap] 33) := ⟨_, rfl⟩
  have hz1 : W1.heap.size = w.heap.size + 1 := by rw [hW1]; simp
  have hO : W1.heap[w.heap.size]? = some (.cells #[.int .u8 x.hd.k, .int .i64 x.hd.n, .string x.hd.name, .int .u8 x.hd.tk, .string x.hd.tn, .int .i64 x.hd.tz, .slice ao m cap] 33) := by rw [hW1]; exact (MapKept.heap_alloc _ _).1
  have hD1 : Did B c w W1 := by rw [hW1]; exact (Did.refl B c w).alloc hBw _
  have hR1 : Wr B c l d W1 := by rw [hW1]; exact h.alloc _
  have hN := none_any x.hd ao m cap W1
  rw [hn, hW1] at hN
  have HN := Lib.hid hN
  obtain ⟨q0, q1, q2, q3, q4, q5, q6⟩ := own7 (show (w.alloc (.cells #[.int .u8 x.hd.k, .int .i64 x.hd.n, .string x.hd.name, .int .u8 x.hd.tk, .string x.hd.tn, .int .i64 x.hd.tz, .slice ao m cap] 33)).heap[w.heap.size]? = _ from (MapKept.heap_alloc _ _).1)
  have HO := Lib.hid hO
  have HD1 := Lib.hid hD1
  have HR1 := Lib.hid hR1
  have HZ := Lib.hid hW1
  have HE := Lib.hid hE
  have HI := Lib.hid hI
  have HK := Lib.hid hK
  have HV := Lib.hid (val_of hx)
  clear h hO hD1 hR1 hN hW1 hE hI hK hn hx
  go_enter Tryd.func88, Tryd.ntmps88
  go_wp2_with fail
  refine HN.out.mono ?_; rintro e w2 ⟨rfl, hb2⟩
  rw [← HZ.out] at hb2
  have hs2 := hb2.size
  have HD2 := Lib.hid (HD1.out.grew (by omega) hb2)
  have HO2 := Lib.hid ((hb2.block _ (by omega)).trans HO.out)
  have HW := Lib.hid (wr1 B c l d a w2.heap.size w2 rfl (HR1.out.below hb2) (by omega) (by omega))
  clear q0 q1 q2 q3 q4 q5 q6 hb2
  go_wp2_with fail
  refine HW.out.mono ?_; rintro e w3 ⟨rfl, hW3, hD3⟩
  have HD3 := Lib.hid (HD2.out.trans hD3)
  obtain ⟨q0, q1, q2, q3, q4, q5, q6⟩ := own7 (hD3.rest _ _ _ _ HO2.out (by omega) (by decide))
  have hX := HE.out B c _ d w3 hW3 (Nat.le_trans hBw HD3.out.below.size) (InW.keeps (HD3.out.below) _ HI.out) (HK.out.below HD3.out.below) (by simp; omega)
  rw [HV.out] at hX
  have HX := Lib.hid hX
  clear hX hW3 hD3
  go_wp2_with fail
  refine HX.out.mono ?_; rintro e w4 ⟨rfl, hW4, hD4⟩
  have HF := Lib.hid (show Wrote B c l (a ++ x.txt) d w (.returned (.tuple #[])) w4 from ⟨rfl, by simpa only [List.append_assoc] using hW4, HD3.out.trans hD4⟩)
  clear hW4 hD4 q0 q1 q2 q3 q4 q5 q6
  go_wp2_with fail
  go_end0
  exact HF.out

section
attribute [local go_sem ↓] loadS_eq storeS_eq loadX_eq

set_option maxRecDepth 100000 in
set_option maxHeartbeats 2000000 in
theorem plain_6 (x : X) (ao : Option Addr) (m cap : Nat) (hx : x.s = .slice ao m cap) (hn : noneH x.hd m = false) (hE : EX x) (B c : Nat) (l : List UInt8) (w : World) (h : Wr B c l 1 w) (hBw : B ≤ w.heap.size) (hI : InW w B x) (hK : Knows B w) (hl : l.length + 100 * X.size x ≤ 900000000) :
    Calls Tryd.prog 81 #[.pointer (some ⟨c, 0, none⟩), .agg #[.int .u8 6, .string ⟨#[]⟩, .int .u8 0, .string ⟨#[]⟩, .int .i64 0, .int .u8 x.hd.k, .int .i64 x.hd.n, .string x.hd.name, .int .u8 x.hd.tk, .string x.hd.tn, .int .i64 x.hd.tz, .slice ao m cap, .int .u8 0, .int .i64 0, .string ⟨#[]⟩, .int .u8 0, .string ⟨#[]⟩, .int .i64 0, .slice none 0 0, .slice none 0 0, .slice none 0 0]] w (Wrote B c l ([112, 114, 105, 110, 116, 32] ++ x.txt) 1 w) := by
  have hlt := h.lt
  obtain ⟨W1, hW1⟩ : ∃ W1, W1 = w.alloc (.cells #[.int .u8 6, .string ⟨#[]⟩, .int .u8 0, .string ⟨#[]⟩, .int .i64 0, .int .u8 x.hd.k, .int .i64 x.hd.n, .string x.hd.name, .int .u8 x.hd.tk, .string x.hd.tn, .int .i64 x.hd.tz, .slice ao m cap, .int .u8 0, .int .i64 0, .string ⟨#[]⟩, .int .u8 0, .string ⟨#[]⟩, .int .i64 0, .slice none 0 0, .slice none 0 0, .slice none 0 0] 57) := ⟨_, rfl⟩
  have hz1 : W1.heap.size = w.heap.size + 1 := by rw [hW1]; simp
  have hO : W1.heap[w.heap.size]? = some (.cells #[.int .u8 6, .string ⟨#[]⟩, .int .u8 0, .string ⟨#[]⟩, .int .i64 0, .int .u8 x.hd.k, .int .i64 x.hd.n, .string x.hd.name, .int .u8 x.hd.tk, .string x.hd.tn, .int .i64 x.hd.tz, .slice ao m cap, .int .u8 0, .int .i64 0, .string ⟨#[]⟩, .int .u8 0, .string ⟨#[]⟩, .int .i64 0, .slice none 0 0, .slice none 0 0, .slice none 0 0] 57) := by rw [hW1]; exact (MapKept.heap_alloc _ _).1
  have hD1 : Did B c w W1 := by rw [hW1]; exact (Did.refl B c w).alloc hBw _
  have hR1 : Wr B c l 1 W1 := by rw [hW1]; exact h.alloc _
  have hk : W1.cell? ⟨w.heap.size, 0, none⟩ = some (.int .u8 6) := by rw [Lib.cell_of_heap hO]; rfl
  have hLX := loadX_of hO
  have hB := behind_any x ao m cap hx hn hE B c l [112, 114, 105, 110, 116, 32] 1 W1 hR1 (by omega) (InW.keeps hD1.below _ hI) (hK.below hD1.below) (by simp; omega)
  rw [hW1] at hk hLX hB
  have HB := Lib.hid hB
  have HD1 := Lib.hid hD1
  have HZ := Lib.hid hW1
  clear h hO hD1 hR1 hW1 hB hE hI hK hn hx
  go_enter Tryd.func81, Tryd.ntmps81
  go_wp2_with fail
  refine HB.out.mono ?_; rintro e w2 hq
  rw [← HZ.out] at hq
  have HE := Lib.hid (wrote_of hq HD1.out)
  obtain ⟨rfl, -⟩ := hq
  clear hLX hk
  go_wp2_with fail
  go_end0
  exact HE.out

set_option maxRecDepth 100000 in
set_option maxHeartbeats 2000000 in
theorem wstmt_6 (x : X) (ao : Option Addr) (m cap : Nat) (hx : x.s = .slice ao m cap) (hn : noneH x.hd m = false) (hE : EX x) (B c : Nat) (l : List UInt8) (w : World) (h : Wr B c l 1 w) (hBw : B ≤ w.heap.size) (hI : InW w B x) (hK : Knows B w) (hl : l.length + 100 * X.size x ≤ 800000000) (ht : x.txt.length ≤ 100 * X.size x) :
    Calls Tryd.prog 76 #[.pointer (some ⟨c, 0, none⟩), .agg #[.int .u8 6, .string ⟨#[]⟩, .int .u8 0, .string ⟨#[]⟩, .int .i64 0, .int .u8 x.hd.k, .int .i64 x.hd.n, .string x.hd.name, .int .u8 x.hd.tk, .string x.hd.tn, .int .i64 x.hd.tz, .slice ao m cap, .int .u8 0, .int .i64 0, .string ⟨#[]⟩, .int .u8 0, .string ⟨#[]⟩, .int .i64 0, .slice none 0 0, .slice none 0 0, .slice none 0 0]] w (Wrote B c l (([112, 114, 105, 110, 116, 32] ++ x.txt) ++ [59]) 1 w) := by
  have hlt := h.lt
  obtain ⟨W1, hW1⟩ : ∃ W1, W1 = w.alloc (.cells #[.int .u8 6, .string ⟨#[]⟩, .int .u8 0, .string ⟨#[]⟩, .int .i64 0, .int .u8 x.hd.k, .int .i64 x.hd.n, .string x.hd.name, .int .u8 x.hd.tk, .string x.hd.tn, .int .i64 x.hd.tz, .slice ao m cap, .int .u8 0, .int .i64 0, .string ⟨#[]⟩, .int .u8 0, .string ⟨#[]⟩, .int .i64 0, .slice none 0 0, .slice none 0 0, .slice none 0 0] 57) := ⟨_, rfl⟩
  have hz1 : W1.heap.size = w.heap.size + 1 := by rw [hW1]; simp
  have hO : W1.heap[w.heap.size]? = some (.cells #[.int .u8 6, .string ⟨#[]⟩, .int .u8 0, .string ⟨#[]⟩, .int .i64 0, .int .u8 x.hd.k, .int .i64 x.hd.n, .string x.hd.name, .int .u8 x.hd.tk, .string x.hd.tn, .int .i64 x.hd.tz, .slice ao m cap, .int .u8 0, .int .i64 0, .string ⟨#[]⟩, .int .u8 0, .string ⟨#[]⟩, .int .i64 0, .slice none 0 0, .slice none 0 0, .slice none 0 0] 57) := by rw [hW1]; exact (MapKept.heap_alloc _ _).1
  have hD1 : Did B c w W1 := by rw [hW1]; exact (Did.refl B c w).alloc hBw _
  have hR1 : Wr B c l 1 W1 := by rw [hW1]; exact h.alloc _
  have hk : W1.cell? ⟨w.heap.size, 0, none⟩ = some (.int .u8 6) := by rw [Lib.cell_of_heap hO]; rfl
  have hLS := loadS_of hO
  have hP := plain_6 x ao m cap hx hn hE B c l W1 hR1 (by omega) (InW.keeps hD1.below _ hI) (hK.below hD1.below) (by omega)
  rw [hW1] at hk hLS hP
  have HP := Lib.hid hP
  have HD1 := Lib.hid hD1
  have HZ := Lib.hid hW1
  clear h hO hD1 hR1 hW1 hP hE hI hK hn hx
  go_enter Tryd.func76, Tryd.ntmps76
  go_wp2_with fail
  refine HP.out.mono ?_; rintro e w2 hq
  rw [← HZ.out] at hq
  obtain ⟨rfl, hW2, hD2⟩ := hq
  have HD2 := Lib.hid (HD1.out.trans hD2)
  have HX := Lib.hid (wr1 B c _ 1 [59] w2.heap.size w2 rfl hW2 (Nat.le_trans hBw HD2.out.below.size) (by simp; omega))
  clear hLS hk hW2 hD2
  go_wp2_with fail
  refine HX.out.mono ?_; rintro e w3 ⟨rfl, hW3, hD3⟩
  have HF := Lib.hid (show Wrote B c l (([112, 114, 105, 110, 116, 32] ++ x.txt) ++ [59]) 1 w (.returned (.tuple #[])) w3 from ⟨rfl, by simpa only [List.append_assoc] using hW3, HD2.out.trans hD3⟩)
  clear hW3 hD3
  go_wp2_with fail
  go_end0
  exact HF.out

set_option maxRecDepth 100000 in
set_option maxHeartbeats 2000000 in
theorem wstmt_5 (B c : Nat) (l : List UInt8) (w : World) (h : Wr B c l 1 w) (hBw : B ≤ w.heap.size) (hl : l.length ≤ 600000000) :
    Calls Tryd.prog 76 #[.pointer (some ⟨c, 0, none⟩), .agg #[.int .u8 5, .string ⟨#[]⟩, .int .u8 0, .string ⟨#[]⟩, .int .i64 0, .int .u8 0, .int .i64 0, .string ⟨#[]⟩, .int .u8 0, .string ⟨#[]⟩, .int .i64 0, .slice none 0 0, .int .u8 0, .int .i64 0, .string ⟨#[]⟩, .int .u8 0, .string ⟨#[]⟩, .int .i64 0, .slice none 0 0, .slice none 0 0, .slice none 0 0]] w (Wrote B c l ([97, 116, 111, 109, 105, 99] ++ ([32, 123, 10] ++ ([] ++ ([32, 32] ++ [125])))) 1 w) := by
  have hlt := h.lt
  obtain ⟨W1, hW1⟩ : ∃ W1, W1 = w.alloc (.cells #[.int .u8 5, .string ⟨#[]⟩, .int .u8 0, .string ⟨#[]⟩, .int .i64 0, .int .u8 0, .int .i64 0, .string ⟨#[]⟩, .int .u8 0, .string ⟨#[]⟩, .int .i64 0, .slice none 0 0, .int .u8 0, .int .i64 0, .string ⟨#[]⟩, .int .u8 0, .string ⟨#[]⟩, .int .i64 0, .slice none 0 0, .slice none 0 0, .slice none 0 0] 57) := ⟨_, rfl⟩
  have hz1 : W1.heap.size = w.heap.size + 1 := by rw [hW1]; simp
  have hO : W1.heap[w.heap.size]? = some (.cells #[.int .u8 5, .string ⟨#[]⟩, .int .u8 0, .string ⟨#[]⟩, .int .i64 0, .int .u8 0, .int .i64 0, .string ⟨#[]⟩, .int .u8 0, .string ⟨#[]⟩, .int .i64 0, .slice none 0 0, .int .u8 0, .int .i64 0, .string ⟨#[]⟩, .int .u8 0, .string ⟨#[]⟩, .int .i64 0, .slice none 0 0, .slice none 0 0, .slice none 0 0] 57) := by rw [hW1]; exact (MapKept.heap_alloc _ _).1
  have hD1 : Did B c w W1 := by rw [hW1]; exact (Did.refl B c w).alloc hBw _
  have hR1 : Wr B c l 1 W1 := by rw [hW1]; exact h.alloc _
  have hk : W1.cell? ⟨w.heap.size, 0, none⟩ = some (.int .u8 5) := by rw [Lib.cell_of_heap hO]; rfl
  have hP := wr1 B c l 1 [97, 116, 111, 109, 105, 99] W1.heap.size W1 rfl hR1 (by omega) (by simp; omega)
  rw [hz1] at hP
  rw [hW1] at hk hP
  have HP := Lib.hid hP
  have HO := Lib.hid hO
  have HD1 := Lib.hid hD1
  have HZ := Lib.hid hW1
  clear h hO hD1 hR1 hW1 hP
  go_enter Tryd.func76, Tryd.ntmps76
  go_wp2_with fail
  refine HP.out.mono ?_; rintro e w2 hq
  rw [← HZ.out] at hq
  obtain ⟨rfl, hW2, hD2⟩ := hq
  have HD2 := Lib.hid (HD1.out.trans hD2)
  have hO2 := hD2.rest _ _ _ _ HO.out (by omega) (by decide)
  have hc19 : w2.cell? ⟨w.heap.size, 19, none⟩ = some (.slice none 0 0) := by rw [Lib.cell_of_heap hO2]; rfl
  have HX := Lib.hid (wstmts_nil B c _ w2 hW2 (Nat.le_trans hBw HD2.out.below.size) (by simp; omega))
  clear hk hW2 hD2 hO2
  go_wp2_with fail
  refine HX.out.mono ?_; rintro e w3 ⟨rfl, hW3, hD3⟩
  have HF := Lib.hid (show Wrote B c l ([97, 116, 111, 109, 105, 99] ++ ([32, 123, 10] ++ ([] ++ ([32, 32] ++ [125])))) 1 w (.returned (.tuple #[])) w3 from ⟨rfl, by simpa only [List.append_assoc] using hW3, HD2.out.trans hD3⟩)
  clear hW3 hD3 hc19
  go_wp2_with fail
  go_end0
  exact HF.out
end

theorem fields_nil (c : Nat) (s : ByteArray) (w : World) : Calls Tryd.prog 52 #[.pointer (some ⟨c, 0, none⟩), .string s, .slice none 0 0] w fun e w' => e = .returned (.tuple #[]) ∧ w = w' := by
  go_enter Tryd.func52, Tryd.ntmps52
  go_wp2_with fail
  refine wp_loop_rounds 1 ?_
  rw [rounds_succ]
  go_wp2_with fail
  go_end0
  exact ⟨rfl, rfl⟩

theorem own_prog (a b c d : Value) {w : World} {g : Nat} {T : TypeId} {fr : Nat × Nat} (h : w.heap[g]? = some (.cells #[a, b, c, d] T fr)) :
    w.cell? ⟨g, 0, none⟩ = some a ∧ w.cell? ⟨g, 1, none⟩ = some b ∧ w.cell? ⟨g, 2, none⟩ = some c ∧ w.cell? ⟨g, 3, none⟩ = some d :=
  ⟨by rw [Lib.cell_of_heap h]; rfl, by rw [Lib.cell_of_heap h]; rfl, by rw [Lib.cell_of_heap h]; rfl, by rw [Lib.cell_of_heap h]; rfl⟩

set_option maxHeartbeats 4000000 in
/-- A program of one thread, and nothing else. -/
theorem wprog_one (B c b g : Nat) (l t : List UInt8) (T : TypeId) (fr : Nat × Nat) (w : World) (h : Wr B c l 0 w) (hBw : B ≤ w.heap.size) (hl : l.length + t.length ≤ 500000000) (hO : w.heap[g]? = some (.cells #[.slice (some ⟨b, 0, none⟩) 1 1] T fr))
    (HS : ∀ w', Wr B c (l ++ [116, 104, 114, 101, 97, 100]) 0 w' → Did B c w w' → Calls Tryd.prog 54 #[.pointer (some ⟨c, 0, none⟩), .slice (some ⟨b, 0, none⟩) 1 1] w' (Wrote B c (l ++ [116, 104, 114, 101, 97, 100]) t 0 w')) :
    Calls Tryd.prog 29 #[.pointer (some ⟨c, 0, none⟩), .agg #[.slice none 0 0, .slice none 0 0, .slice none 0 0, .slice (some ⟨g, 0, none⟩) 1 1]] w (Wrote B c l ([116, 104, 114, 101, 97, 100] ++ (t ++ [10])) 0 w) := by
  have hlt := h.lt
  have hgl : g < w.heap.size := (Array.getElem?_eq_some_iff.1 hO).1
  obtain ⟨W1, hW1⟩ : ∃ W1, W1 = w.alloc (.cells #[.pointer (some ⟨c, 0, none⟩)] 49) := ⟨_, rfl⟩
  have hz1 : W1.heap.size = w.heap.size + 1 := by rw [hW1]; simp
  obtain ⟨W2, hW2⟩ : ∃ W2, W2 = W1.alloc (.cells #[.slice none 0 0, .slice none 0 0, .slice none 0 0, .slice (some ⟨g, 0, none⟩) 1 1] 43) := ⟨_, rfl⟩
  have hz2 : W2.heap.size = w.heap.size + 2 := by rw [hW2]; simp [hz1]
  have hD2 : Did B c w W2 := by rw [hW2, hW1]; exact ((Did.refl B c w).alloc hBw _).alloc (by simp; omega) _
  have hR2 : Wr B c l 0 W2 := by rw [hW2, hW1]; exact (h.alloc _).alloc _
  have hv : W2.heap[w.heap.size]? = some (.cells #[.pointer (some ⟨c, 0, none⟩)] 49) := by rw [hW2, Below.heap_alloc _ _ _ (by omega), hW1]; exact (MapKept.heap_alloc _ _).1
  have hp : W2.heap[w.heap.size + 1]? = some (.cells #[.slice none 0 0, .slice none 0 0, .slice none 0 0, .slice (some ⟨g, 0, none⟩) 1 1] 43) := by rw [hW2, ← hz1]; exact (MapKept.heap_alloc _ _).1
  have hg2 : W2.heap[g]? = some (.cells #[.slice (some ⟨b, 0, none⟩) 1 1] T fr) := by rw [hW2, Below.heap_alloc _ _ _ (by omega), hW1, Below.heap_alloc _ _ _ hgl]; exact hO
  obtain ⟨p0, p1, p2, p3⟩ := own_prog _ _ _ _ hp
  have hcg : W2.cell? ⟨g, 0, none⟩ = some (.slice (some ⟨b, 0, none⟩) 1 1) := by rw [Lib.cell_of_heap hg2]; rfl
  have hcv : W2.cell? ⟨w.heap.size, 0, none⟩ = some (.pointer (some ⟨c, 0, none⟩)) := by rw [Lib.cell_of_heap hv]; rfl
  have hP := wr1 B c l 0 [116, 104, 114, 101, 97, 100] W2.heap.size W2 rfl hR2 (by omega) (by simp; omega)
  rw [hz2] at hP
  have HV := Lib.hid hv
  have HD := Lib.hid hD2
  have HSS := Lib.hid HS
  have HZ := Lib.hid (show W2 = (w.alloc (.cells #[.pointer (some ⟨c, 0, none⟩)] 49)).alloc (.cells #[.slice none 0 0, .slice none 0 0, .slice none 0 0, .slice (some ⟨g, 0, none⟩) 1 1] 43) by rw [hW2, hW1])
  rw [HZ.out] at p0 p1 p2 p3 hcg hcv hP
  have HP := Lib.hid hP
  clear h hO hD2 hR2 hv hp hg2 hW1 hW2 hP HS hz1
  go_enter Tryd.func29, Tryd.ntmps29
  go_wp2_with fail
  refine wp_loop_rounds 1 ?_
  rw [rounds_succ]
  go_wp2_with fail
  refine (fields_nil _ _ _).mono ?_; rintro e w' ⟨rfl, rfl⟩
  go_wp2_with fail
  refine wp_loop_rounds 1 ?_
  rw [rounds_succ]
  go_wp2_with fail
  refine wp_loop_rounds 2 ?_
  rw [rounds_succ]
  go_wp2_with fail
  refine HP.out.mono ?_; rintro e w3 hq
  rw [← HZ.out] at hq
  obtain ⟨rfl, hW3, hD3⟩ := hq
  clear p0 p1 p2 p3 hcg hcv
  have hv3 := hD3.rest _ _ _ _ HV.out (by omega) (by decide)
  have hcv3 : w3.cell? ⟨w.heap.size, 0, none⟩ = some (.pointer (some ⟨c, 0, none⟩)) := by rw [Lib.cell_of_heap hv3]; rfl
  have HV3 := Lib.hid hv3
  have HD3 := Lib.hid (HD.out.trans hD3)
  have HC := Lib.hid (HSS.out w3 hW3 HD3.out)
  clear hW3 hD3 hv3
  go_wp2_with fail
  refine HC.out.mono ?_; rintro e w4 ⟨rfl, hW4, hD4⟩
  clear hcv3
  have hv4 := hD4.rest _ _ _ _ HV3.out (by omega) (by decide)
  have hcv4 : w4.cell? ⟨w.heap.size, 0, none⟩ = some (.pointer (some ⟨c, 0, none⟩)) := by rw [Lib.cell_of_heap hv4]; rfl
  have HD4 := Lib.hid (HD3.out.trans hD4)
  have HX := Lib.hid (wr1 B c _ 0 [10] w4.heap.size w4 rfl hW4 (Nat.le_trans hBw HD4.out.below.size) (by simp; omega))
  clear hW4 hD4 hv4
  go_wp2_with fail
  refine HX.out.mono ?_; rintro e w5 ⟨rfl, hW5, hD5⟩
  have HF := Lib.hid (show Wrote B c l ([116, 104, 114, 101, 97, 100] ++ (t ++ [10])) 0 w (.returned (.tuple #[])) w5 from ⟨rfl, by simpa only [List.append_assoc] using hW5, HD4.out.trans hD5⟩)
  clear hW5 hD5 hcv4
  go_wp2_with fail
  rw [rounds_succ]
  go_wp2_with fail
  go_end0
  exact HF.out
end Go.Proofs.YtflbplljlkpeiaaDoor
