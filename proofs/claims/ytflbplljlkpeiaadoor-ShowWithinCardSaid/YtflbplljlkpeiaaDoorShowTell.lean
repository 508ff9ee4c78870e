/- What a new writer is; what the show layer's writer writes of numbers, types, commas and margins; what it tells in the end. -/
import Derived.Test.YtflbplljlkpeiaaDoorRows
import Derived.Test.YtflbplljlkpeiaaDoorShowWrite
import Derived.Test.YtflbplljlkpeiaaDoorShowType
import Derived.Test.YtflbplljlkpeiaaDoorShelf
import Derived.Shelf.Strconv.Itoa4
import Derived.Lib.ItoaMem
import Derived.WalkKit
import Derived.LoopTactic
import Derived.WalkSpells
import Derived.WalkLawsBesides
import Derived.Lib.Hide
namespace Go.Proofs.YtflbplljlkpeiaaDoor
open Go.RowKit

theorem var_keeps {P : Program} {n : String} {cs : Array Value} {w w' : World} (hb : Below w.heap.size w w') (h : w.var? P n = some cs) : w'.var? P n = some cs := by
  unfold World.var? at *
  cases hg : P.globalNamed n with
  | none => simp [hg] at h
  | some g =>
    simp only [hg, Option.bind_some] at h ⊢
    have hlt : g < w.heap.size := by
      rcases Nat.lt_or_ge g w.heap.size with h' | h'
      · exact h'
      · rw [Array.getElem?_eq_none h'] at h; simp at h
    rw [hb.block g hlt]
    exact h
theorem below_more (w : World) (k : Nat) (os : Array Obj) : Below w.heap.size w (Sort.grow (w.drewN k) os) :=
  ⟨rfl, rfl, rfl, by show w.heap.size ≤ (w.heap ++ os).size; rw [Array.size_append]; omega, fun j hj => by
    show (w.heap ++ os)[j]? = w.heap[j]?
    rw [Array.getElem?_append, if_pos hj]⟩

/-- The library's table reads as the program's text lays it. -/
structure Good (w : World) : Prop where
  tab : Lib.TabIs Tryd.prog w "internal/strconv.uint64pow10" .u64 Lib.pow10Tab
theorem Good.keeps {w w' : World} (h : Good w) (hb : Below w.heap.size w w') : Good w' := ⟨var_keeps hb h.tab⟩
/-- .. and that lies below B. -/
def Knows (B : Nat) (w : World) : Prop := ∃ w0, Good w0 ∧ w0.heap.size ≤ B ∧ Below w0.heap.size w0 w
theorem Knows.good {B : Nat} {w : World} (h : Knows B w) : Good w := by obtain ⟨w0, h0, _, hb⟩ := h; exact h0.keeps hb
theorem Knows.below {B : Nat} {w w' : World} (h : Knows B w) (hb : Below B w w') : Knows B w' := by obtain ⟨w0, h0, h1, h2⟩ := h; exact ⟨w0, h0, h1, h2.trans (hb.mono h1)⟩
theorem Good.knows {w : World} (h : Good w) : Knows w.heap.size w := ⟨w, h, Nat.le_refl _, Below.refl _ _⟩
theorem Knows.up {B B' : Nat} {w : World} (h : Knows B w) (hB : B ≤ B') : Knows B' w := by obtain ⟨w0, h0, h1, h2⟩ := h; exact ⟨w0, h0, Nat.le_trans h1 hB, h2⟩

set_option maxHeartbeats 400000 in
theorem text_any (n : Int) (h0 : -9223372036854775808 ≤ n) (h1 : n ≤ 9223372036854775807) (w : World) (hG : Good w) :
    Calls Tryd.prog 37 #[.int .i64 n] w fun e w' => e = .returned (.string ⟨(Lib.itoa n).toArray⟩) ∧ Below w.heap.size w w' := by
  have hc : ∀ w, Good w → Calls Tryd.prog 62 #[.int .i64 n, .int .i64 10] w fun e w' => e = .returned (.string ⟨(Lib.itoa n).toArray⟩) ∧ ∃ k os, w' = Sort.grow (w.drewN k) os := fun w hG => Any.strconv_FormatInt_10 Tryd.laysM173 n h0 h1 w hG.tab
  have Hc := Lib.hid hc
  clear hc
  go_enter Tryd.func37, Tryd.ntmps37
  go_wp2_with (go_at_call 62; refine (Hc.out _ hG).mono ?_; rintro e w' ⟨rfl, k, os, rfl⟩)
  go_ret
  exact ⟨rfl, below_more _ _ _⟩

/-- A new writer. -/
def NewWr (w : World) (e : Ending) (w' : World) : Prop := ∃ c, e = .returned (.pointer (some ⟨c, 0, none⟩)) ∧ Wr w.heap.size c [] 0 w' ∧ Below w.heap.size w w'

set_option maxHeartbeats 400000 in
theorem newwr_any (w : World) : Calls Tryd.prog 17 #[] w (NewWr w) := by
  have HX := Lib.hid (xkinds_any w)
  go_enter Tryd.func17, Tryd.ntmps17
  go_wp2_with (go_at_call 35; refine HX.out.mono ?_; rintro e w1 ⟨m, rfl, hm, hM, hb⟩)
  have hs := hb.size
  go_wp2_with fail
  go_ret
  refine ⟨w1.heap.size, rfl, .inl ⟨hs, .slice none 0 0, m, (MapKept.heap_alloc w1 _).1, ?_, World.ownsRow_nil _ _ _ _, by simp [Value.ownBlock]⟩, hb.alloc hs _⟩
  exact hM.of (Below.heap_alloc _ _ _ hM.lt)

theorem wrote_of {B c : Nat} {l t : List UInt8} {d : Int} {w w1 w2 : World} {e : Ending} (h : Wrote B c l t d w1 e w2) (k : Did B c w w1) : Wrote B c l t d w e w2 := ⟨h.1, h.2.1, k.trans h.2.2⟩

theorem write1 (B c : Nat) (l : List UInt8) (d : Int) (a : ByteArray) (g : Nat) (w : World) (hg : g = w.heap.size) (h : Wr B c l d w) (hBw : B ≤ w.heap.size) (hl : l.length + a.size ≤ 1000000000) :
    Calls Tryd.prog 36 #[.pointer (some ⟨c, 0, none⟩), .slice (some ⟨g, 0, none⟩) 1 1] (w.alloc (.cells #[.string a] 9)) (Wrote B c l a.data.toList d w) := by
  subst hg
  have e1 : flat [a] = a.data.toList := by simp [flat]
  refine (write_any B c l d w.heap.size 1 [a] (0, 0) _ (h.alloc _) (MapKept.heap_alloc w _).1 (by have := h.lt; omega) rfl (by omega) ?_ (by simp; omega)).mono fun e w' hw => ?_
  · rw [e1, size_of]; exact hl
  · rw [e1] at hw; exact wrote_of hw ((Did.refl B c w).alloc hBw _)
theorem write2 (B c : Nat) (l : List UInt8) (d : Int) (a b : ByteArray) (g : Nat) (w : World) (hg : g = w.heap.size) (h : Wr B c l d w) (hBw : B ≤ w.heap.size) (hl : l.length + (a.size + b.size) ≤ 1000000000) :
    Calls Tryd.prog 36 #[.pointer (some ⟨c, 0, none⟩), .slice (some ⟨g, 0, none⟩) 2 2] (w.alloc (.cells #[.string a, .string b] 9)) (Wrote B c l (a.data.toList ++ b.data.toList) d w) := by
  subst hg
  have e1 : flat [a, b] = a.data.toList ++ b.data.toList := by simp [flat]
  refine (write_any B c l d w.heap.size 2 [a, b] (0, 0) _ (h.alloc _) (MapKept.heap_alloc w _).1 (by have := h.lt; omega) rfl (by omega) ?_ (by simp; omega)).mono fun e w' hw => ?_
  · rw [e1, List.length_append, size_of, size_of]; exact hl
  · rw [e1] at hw; exact wrote_of hw ((Did.refl B c w).alloc hBw _)
theorem write3 (B c : Nat) (l : List UInt8) (d : Int) (a b x : ByteArray) (g : Nat) (w : World) (hg : g = w.heap.size) (h : Wr B c l d w) (hBw : B ≤ w.heap.size) (hl : l.length + (a.size + (b.size + x.size)) ≤ 1000000000) :
    Calls Tryd.prog 36 #[.pointer (some ⟨c, 0, none⟩), .slice (some ⟨g, 0, none⟩) 3 3] (w.alloc (.cells #[.string a, .string b, .string x] 9)) (Wrote B c l (a.data.toList ++ (b.data.toList ++ x.data.toList)) d w) := by
  subst hg
  have e1 : flat [a, b, x] = a.data.toList ++ (b.data.toList ++ x.data.toList) := by simp [flat]
  refine (write_any B c l d w.heap.size 3 [a, b, x] (0, 0) _ (h.alloc _) (MapKept.heap_alloc w _).1 (by have := h.lt; omega) rfl (by omega) ?_ (by simp; omega)).mono fun e w' hw => ?_
  · rw [e1, List.length_append, List.length_append, size_of, size_of, size_of]; exact hl
  · rw [e1] at hw; exact wrote_of hw ((Did.refl B c w).alloc hBw _)

theorem itoa_len (n : Int) (h0 : -9223372036854775808 ≤ n) (h1 : n ≤ 9223372036854775807) : (Lib.itoa n).length ≤ 20 := itoa_short n h0 h1

/-- A type's text. -/
def tyText (tk : Int) (tn : List UInt8) (tz : Int) : List UInt8 := (if tk = 3 then [91] ++ (Lib.itoa tz ++ [93]) else []) ++ (if tn = [] then [105, 110, 116] else tn)

set_option maxHeartbeats 400000 in
theorem tname_plain (B c : Nat) (l : List UInt8) (d tk tz : Int) (tn : ByteArray) (w : World) (h : Wr B c l d w) (hBw : B ≤ w.heap.size) (hl : l.length + (tn.size + 3) ≤ 1000000000) (hk : ¬ tk = 3) :
    Calls Tryd.prog 18 #[.pointer (some ⟨c, 0, none⟩), .agg #[.int .u8 tk, .string tn, .int .i64 tz]] w (Wrote B c l (tyText tk tn.data.toList tz) d w) := by
  have q1 : (tk == 3) = false := beq_eq_false_iff_ne.2 hk
  have h1 := h.alloc (.cells #[.int .u8 tk, .string tn, .int .i64 tz] 24)
  have HD := Lib.hid ((Did.refl B c w).alloc hBw (.cells #[.int .u8 tk, .string tn, .int .i64 tz] 24))
  by_cases he : tn.data.toList = []
  · have HF := Lib.hid (show tyText tk tn.data.toList tz = (⟨#[105, 110, 116]⟩ : ByteArray).data.toList by simp [tyText, hk, he])
    have t1 := emp_yes he
    have t2 := nil_yes he
    have HW := Lib.hid (write1 B c l d ⟨#[105, 110, 116]⟩ (w.heap.size + 1) _ (by simp) h1 (by simp; omega) (by show l.length + 3 ≤ _; omega))
    clear he hk h h1
    go_enter Tryd.func18, Tryd.ntmps18
    go_wp2_with (go_at_call 36; refine HW.out.mono ?_; rintro e w1 ⟨rfl, hW, hD⟩)
    go_end0
    exact ⟨rfl, by rw [HF.out]; exact hW, HD.out.trans hD⟩
  · have HF := Lib.hid (show tyText tk tn.data.toList tz = tn.data.toList by simp [tyText, hk, he])
    have t1 := emp_no he
    have HW := Lib.hid (write1 B c l d tn (w.heap.size + 1) _ (by simp) h1 (by simp; omega) (by omega))
    clear he hk h h1
    go_enter Tryd.func18, Tryd.ntmps18
    go_wp2_with (go_at_call 36; refine HW.out.mono ?_; rintro e w1 ⟨rfl, hW, hD⟩)
    go_end0
    exact ⟨rfl, by rw [HF.out]; exact hW, HD.out.trans hD⟩

theorem cells_own {w : World} {k : Nat} {cs : Array Value} {T : TypeId} {fr : Nat × Nat} (h : w.heap[k]? = some (.cells cs T fr)) : ∀ j, w.cell? ⟨k, j, none⟩ = cs[j]? := fun j => Lib.cell_of_heap h j


set_option maxHeartbeats 1000000 in
theorem tname_array (B c : Nat) (l : List UInt8) (d tz : Int) (tn : ByteArray) (w : World) (h : Wr B c l d w) (hBw : B ≤ w.heap.size) (hl : l.length + (tn.size + 40) ≤ 1000000000) (hz0 : -9223372036854775808 ≤ tz) (hz1 : tz ≤ 9223372036854775807) (hG : Knows B w) :
    Calls Tryd.prog 18 #[.pointer (some ⟨c, 0, none⟩), .agg #[.int .u8 3, .string tn, .int .i64 tz]] w (Wrote B c l (tyText 3 tn.data.toList tz) d w) := by
  have hc := h.lt
  have h1 := h.alloc (.cells #[.int .u8 3, .string tn, .int .i64 tz] 24)
  have hD := (Did.refl B c w).alloc hBw (.cells #[.int .u8 3, .string tn, .int .i64 tz] 24)
  have HT := Lib.hid (text_any tz hz0 hz1 _ (hG.below hD.below).good)
  have hz := itoa_len tz hz0 hz1
  have HO := Lib.hid (MapKept.heap_alloc w (.cells #[.int .u8 3, .string tn, .int .i64 tz] 24)).1
  have H1 := Lib.hid h1
  have HD := Lib.hid hD
  clear h h1 hD hG hz0 hz1
  go_enter Tryd.func18, Tryd.ntmps18
  go_wp2_with fail
  refine HT.out.mono ?_; rintro e w2 ⟨rfl, hb2⟩
  have hs2 := hb2.size
  simp at hs2
  have hW2 := H1.out.below hb2
  have HD2 := Lib.hid (HD.out.grew (by simp; omega) hb2)
  have HO2 := Lib.hid ((hb2.block _ (by simp)).trans HO.out)
  have HW := Lib.hid (write3 B c l d ⟨#[91]⟩ ⟨(Lib.itoa tz).toArray⟩ ⟨#[93]⟩ w2.heap.size w2 rfl hW2 (by omega) (by show l.length + (1 + ((Lib.itoa tz).toArray.size + 1)) ≤ _; simp; omega))
  clear hb2 hW2
  go_wp2_with fail
  refine HW.out.mono ?_; rintro e w3 ⟨rfl, hW3, hD3⟩
  have hs3 := hD3.below.size
  have hO3 := hD3.rest _ _ _ _ HO2.out (by omega) (by decide)
  have c1 : w3.cell? ⟨w.heap.size, 1, none⟩ = some (.string tn) := by rw [Lib.cell_of_heap hO3]; rfl
  have HD3 := Lib.hid (HD2.out.trans hD3)
  have hl3 : (l ++ (([91] : List UInt8) ++ (Lib.itoa tz ++ [93]))).length ≤ l.length + 22 := by simp; omega
  by_cases he : tn.data.toList = []
  · have HF := Lib.hid (show l ++ tyText 3 tn.data.toList tz = l ++ ([91] ++ (Lib.itoa tz ++ [93])) ++ (⟨#[105, 110, 116]⟩ : ByteArray).data.toList by simp [tyText, he])
    have t1 := emp_yes he
    have t2 := nil_yes he
    have HX := Lib.hid (write1 B c _ d ⟨#[105, 110, 116]⟩ w3.heap.size _ rfl hW3 (by omega) (by show _ + 3 ≤ _; omega))
    clear he hW3 hD3 hO3
    go_wp2_with (go_at_call 36; refine HX.out.mono ?_; rintro e w4 ⟨rfl, hW4, hD4⟩)
    go_end0
    exact ⟨rfl, by rw [HF.out]; exact hW4, HD3.out.trans hD4⟩
  · have HF := Lib.hid (show l ++ tyText 3 tn.data.toList tz = l ++ ([91] ++ (Lib.itoa tz ++ [93])) ++ tn.data.toList by simp [tyText, he])
    have t1 := emp_no he
    have HX := Lib.hid (write1 B c _ d tn w3.heap.size _ rfl hW3 (by omega) (by omega))
    clear he hW3 hD3 hO3
    go_wp2_with (go_at_call 36; refine HX.out.mono ?_; rintro e w4 ⟨rfl, hW4, hD4⟩)
    go_end0
    exact ⟨rfl, by rw [HF.out]; exact hW4, HD3.out.trans hD4⟩

theorem tname_any (B c : Nat) (l : List UInt8) (d tk tz : Int) (tn : ByteArray) (w : World) (h : Wr B c l d w) (hBw : B ≤ w.heap.size) (hl : l.length + (tn.size + 40) ≤ 1000000000) (hz0 : -9223372036854775808 ≤ tz) (hz1 : tz ≤ 9223372036854775807) (hG : Knows B w) :
    Calls Tryd.prog 18 #[.pointer (some ⟨c, 0, none⟩), .agg #[.int .u8 tk, .string tn, .int .i64 tz]] w (Wrote B c l (tyText tk tn.data.toList tz) d w) := by
  by_cases hk : tk = 3
  · subst hk
    exact tname_array B c l d tz tn w h hBw hl hz0 hz1 hG
  · exact tname_plain B c l d tk tz tn w h hBw (by omega) hk

/-- What a writer tells in the end. -/
def Told (B : Nat) (l : List UInt8) (w : World) (e : Ending) (w' : World) : Prop :=
  e = (if 65536 < l.length then .returned (.tuple #[.string ⟨#[]⟩, .int .i64 3]) else .returned (.tuple #[.string ⟨l.toArray⟩, .int .i64 0])) ∧ Below B w w'

set_option maxHeartbeats 400000 in
theorem told_any (B c : Nat) (l : List UInt8) (d : Int) (w : World) (h : Wr B c l d w) (h0 : l ≠ []) (hl : l.length ≤ 1000000000) :
    Calls Tryd.prog 19 #[.pointer (some ⟨c, 0, none⟩)] w (Told B l w) := by
  have HL := Lib.hid (wlen_any B c l d w h)
  have HS := Lib.hid (wtext_any B c l d w h h0)
  clear h h0
  by_cases hb : 65536 < l.length
  · have HF := Lib.hid (if_pos hb : (if 65536 < l.length then (Ending.returned (.tuple #[.string ⟨#[]⟩, .int .i64 3])) else .returned (.tuple #[.string ⟨l.toArray⟩, .int .i64 0])) = _)
    go_enter Tryd.func19, Tryd.ntmps19
    go_wp2_with (go_at_call 38; refine HL.out.mono ?_; rintro e w1 ⟨rfl, rfl⟩)
    go_ret2
    exact ⟨HF.out.symm, Below.refl _ _⟩
  · have HF := Lib.hid (if_neg hb : (if 65536 < l.length then (Ending.returned (.tuple #[.string ⟨#[]⟩, .int .i64 3])) else .returned (.tuple #[.string ⟨l.toArray⟩, .int .i64 0])) = _)
    go_enter Tryd.func19, Tryd.ntmps19
    go_wp2_with (first | (go_at_call 38; refine HL.out.mono ?_; rintro e w1 ⟨rfl, rfl⟩) | (go_at_call 39; refine HS.out.mono ?_; rintro e w1 ⟨rfl, hb1⟩))
    go_ret2
    exact ⟨HF.out.symm, hb1⟩

set_option maxHeartbeats 400000 in
theorem comma_first (c : Nat) (w : World) : Calls Tryd.prog 70 #[.pointer (some ⟨c, 0, none⟩), .int .i64 0] w fun e w' => e = .returned (.tuple #[]) ∧ w = w' := by
  go_enter Tryd.func70, Tryd.ntmps70
  go_wp2_with fail
  go_end0
  exact ⟨rfl, rfl⟩
set_option maxHeartbeats 400000 in
theorem comma_more (B c : Nat) (l : List UInt8) (d k : Int) (w : World) (h : Wr B c l d w) (hBw : B ≤ w.heap.size) (hl : l.length + 2 ≤ 1000000000) (hk : 0 < k) :
    Calls Tryd.prog 70 #[.pointer (some ⟨c, 0, none⟩), .int .i64 k] w (Wrote B c l [44, 32] d w) := by
  have HX := Lib.hid (write1 B c l d ⟨#[44, 32]⟩ w.heap.size w rfl h hBw (by show _ + 2 ≤ _; omega))
  clear h
  go_enter Tryd.func70, Tryd.ntmps70
  go_wp2_with (go_at_call 36; refine HX.out.mono ?_; rintro e w1 ⟨rfl, hW, hD⟩)
  go_end0
  exact ⟨rfl, hW, hD⟩
end Go.Proofs.YtflbplljlkpeiaaDoor
