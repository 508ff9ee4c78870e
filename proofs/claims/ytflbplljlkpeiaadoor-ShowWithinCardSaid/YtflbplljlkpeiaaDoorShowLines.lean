/- Lists of statements as the show layer's writer writes them: of none, and of one. -/
import Derived.Test.YtflbplljlkpeiaaDoorRows
import Derived.Test.YtflbplljlkpeiaaDoorShowTell
import Derived.Test.YtflbplljlkpeiaaDoorShowLoad
import Derived.LoopTactic
import Derived.LoopN
import Derived.WalkKit
import Derived.WalkSpells
import Derived.WalkLawsBesides
import Derived.Lib.Hide
namespace Go.Proofs.YtflbplljlkpeiaaDoor
open Go.RowKit

attribute [local go_sem ↓] loadS_eq storeS_eq

theorem wr1 (B c : Nat) (l : List UInt8) (d : Int) (t : List UInt8) (g : Nat) (w : World) (hg : g = w.heap.size) (h : Wr B c l d w) (hBw : B ≤ w.heap.size) (hl : l.length + t.length ≤ 1000000000) :
    Calls Tryd.prog 36 #[.pointer (some ⟨c, 0, none⟩), .slice (some ⟨g, 0, none⟩) 1 1] (w.alloc (.cells #[.string ⟨t.toArray⟩] 9)) (Wrote B c l t d w) :=
  write1 B c l d ⟨t.toArray⟩ g w hg h hBw (by show l.length + t.toArray.size ≤ _; simpa using hl)

theorem Wrote.then {B c : Nat} {l t u : List UInt8} {d : Int} {w w1 w2 : World} {e e' : Ending} (h : Wrote B c l t d w e w1) (k : Wrote B c (l ++ t) u d w1 e' w2) : Wrote B c l (t ++ u) d w e' w2 :=
  ⟨k.1, by rw [← List.append_assoc]; exact k.2.1, h.2.2.trans k.2.2⟩

theorem margin_0 (B c : Nat) (l : List UInt8) (w : World) (h : Wr B c l 0 w) :
    Calls Tryd.prog 73 #[.pointer (some ⟨c, 0, none⟩)] w (Wrote B c l [] 0 w) := by
  obtain ⟨hd, -⟩ := h.deep
  have HE := Lib.hid (show Wrote B c l [] 0 w (.returned (.tuple #[])) w from ⟨rfl, by rw [List.append_nil]; exact h, Did.refl B c w⟩)
  clear h
  go_enter Tryd.func73, Tryd.ntmps73
  go_wp2_with fail
  refine wp_loop_rounds 1 ?_
  rw [rounds_succ]
  go_wp2_with fail
  go_end0
  exact HE.out

theorem margin_1 (B c : Nat) (l : List UInt8) (w : World) (h : Wr B c l 1 w) (hBw : B ≤ w.heap.size) (hl : l.length ≤ 900000000) :
    Calls Tryd.prog 73 #[.pointer (some ⟨c, 0, none⟩)] w (Wrote B c l [32, 32] 1 w) := by
  obtain ⟨hd, -⟩ := h.deep
  have HS := Lib.hid (wstring_any B c l 1 ⟨#[32, 32]⟩ w h (by show l.length + 2 ≤ _; omega) hBw)
  clear h
  go_enter Tryd.func73, Tryd.ntmps73
  go_wp2_with fail
  refine wp_loop_rounds 2 ?_
  rw [rounds_succ]
  go_wp2_with (go_at_call 61; refine HS.out.mono ?_; rintro e w2 ⟨rfl, hW2, hD2⟩)
  have HE := Lib.hid (show Wrote B c l [32, 32] 1 w (.returned (.tuple #[])) w2 from ⟨rfl, hW2, hD2⟩)
  clear hW2 hD2
  go_wp2_with fail
  rw [rounds_succ]
  go_wp2_with fail
  go_end0
  exact HE.out

set_option maxHeartbeats 1000000 in
theorem wlist_0 (B c s v : Nat) (l t : List UInt8) (w : World) (h : Wr B c l 0 w) (hBw : B ≤ w.heap.size) (hl : l.length + t.length ≤ 800000000)
    (Hf : ∀ w', Wr B c (l ++ [32, 123, 10]) 1 w' → Did B c w w' → Calls Tryd.prog 75 #[.pointer (some ⟨s, 0, none⟩), .pointer (some ⟨v, 0, none⟩)] w' (Wrote B c (l ++ [32, 123, 10]) t 1 w')) :
    Calls Tryd.prog 50 #[.pointer (some ⟨c, 0, none⟩), .func (.func 75) #[] #[.pointer (some ⟨s, 0, none⟩), .pointer (some ⟨v, 0, none⟩)]] w (Wrote B c l ([32, 123, 10] ++ (t ++ (([] : List UInt8) ++ [125]))) 0 w) := by
  have HF := Lib.hid Hf
  have HB := h.base
  have HW := Lib.hid (wr1 B c l 0 [32, 123, 10] w.heap.size w rfl h hBw (by simp; omega))
  clear h Hf
  go_enter Tryd.func50, Tryd.ntmps50
  go_wp2_with fail
  refine HW.out.mono ?_; rintro e w1 ⟨rfl, hW1, hD1⟩
  obtain ⟨hd1, hf1⟩ := hW1.deep
  have HD1 := Lib.hid (hD1.cell HB 3 (.int .i64 1))
  have HC := Lib.hid (HF.out _ (hW1.lists 1) HD1.out)
  clear hW1 hD1
  go_wp2_with fail
  refine HC.out.mono ?_; rintro e w2 ⟨rfl, hW2, hD2⟩
  have hB2 := Nat.le_trans hBw ((HD1.out.trans hD2).below.size)
  obtain ⟨hd2, hf2⟩ := hW2.deep
  have HD2 := Lib.hid ((HD1.out.trans hD2).cell HB 3 (.int .i64 0))
  have HM := Lib.hid (margin_0 B c _ _ (hW2.lists 0))
  clear hd1 hf1 hW2 hD2
  go_wp2_with fail
  refine HM.out.mono ?_; rintro e w3 ⟨rfl, hW3, hD3⟩
  have HD3 := Lib.hid (HD2.out.trans hD3)
  have HX := Lib.hid (wr1 B c _ 0 [125] w3.heap.size w3 rfl hW3 (Nat.le_trans hBw HD3.out.below.size) (by simp; omega))
  clear hW3 hD3 hd2 hf2
  go_wp2_with fail
  refine HX.out.mono ?_; rintro e w4 ⟨rfl, hW4, hD4⟩
  have HE := Lib.hid (show Wrote B c l ([32, 123, 10] ++ (t ++ (([] : List UInt8) ++ [125]))) 0 w (.returned (.tuple #[])) w4 from ⟨rfl, by simpa only [List.append_assoc] using hW4, HD3.out.trans hD4⟩)
  clear hW4 hD4
  go_wp2_with fail
  go_end0
  exact HE.out

set_option maxHeartbeats 1000000 in
theorem wlist_1 (B c s v : Nat) (l t : List UInt8) (w : World) (h : Wr B c l 1 w) (hBw : B ≤ w.heap.size) (hl : l.length + t.length ≤ 800000000)
    (Hf : ∀ w', Wr B c (l ++ [32, 123, 10]) 2 w' → Did B c w w' → Calls Tryd.prog 75 #[.pointer (some ⟨s, 0, none⟩), .pointer (some ⟨v, 0, none⟩)] w' (Wrote B c (l ++ [32, 123, 10]) t 2 w')) :
    Calls Tryd.prog 50 #[.pointer (some ⟨c, 0, none⟩), .func (.func 75) #[] #[.pointer (some ⟨s, 0, none⟩), .pointer (some ⟨v, 0, none⟩)]] w (Wrote B c l ([32, 123, 10] ++ (t ++ (([32, 32] : List UInt8) ++ [125]))) 1 w) := by
  have HF := Lib.hid Hf
  have HB := h.base
  have HW := Lib.hid (wr1 B c l 1 [32, 123, 10] w.heap.size w rfl h hBw (by simp; omega))
  clear h Hf
  go_enter Tryd.func50, Tryd.ntmps50
  go_wp2_with fail
  refine HW.out.mono ?_; rintro e w1 ⟨rfl, hW1, hD1⟩
  obtain ⟨hd1, hf1⟩ := hW1.deep
  have HD1 := Lib.hid (hD1.cell HB 3 (.int .i64 2))
  have HC := Lib.hid (HF.out _ (hW1.lists 2) HD1.out)
  clear hW1 hD1
  go_wp2_with fail
  refine HC.out.mono ?_; rintro e w2 ⟨rfl, hW2, hD2⟩
  have hB2 := Nat.le_trans hBw ((HD1.out.trans hD2).below.size)
  obtain ⟨hd2, hf2⟩ := hW2.deep
  have HD2 := Lib.hid ((HD1.out.trans hD2).cell HB 3 (.int .i64 1))
  have HM := Lib.hid (margin_1 B c _ _ (hW2.lists 1) (by simpa [World.setCell] using hB2) (by simp; omega))
  clear hd1 hf1 hW2 hD2
  go_wp2_with fail
  refine HM.out.mono ?_; rintro e w3 ⟨rfl, hW3, hD3⟩
  have HD3 := Lib.hid (HD2.out.trans hD3)
  have HX := Lib.hid (wr1 B c _ 1 [125] w3.heap.size w3 rfl hW3 (Nat.le_trans hBw HD3.out.below.size) (by simp; omega))
  clear hW3 hD3 hd2 hf2
  go_wp2_with fail
  refine HX.out.mono ?_; rintro e w4 ⟨rfl, hW4, hD4⟩
  have HE := Lib.hid (show Wrote B c l ([32, 123, 10] ++ (t ++ (([32, 32] : List UInt8) ++ [125]))) 1 w (.returned (.tuple #[])) w4 from ⟨rfl, by simpa only [List.append_assoc] using hW4, HD3.out.trans hD4⟩)
  clear hW4 hD4
  go_wp2_with fail
  go_end0
  exact HE.out

theorem lines_nil (s v : Nat) (T : TypeId) (fr : Nat × Nat) (w : World) (hs : w.heap[s]? = some (.cells #[.slice none 0 0] T fr)) :
    Calls Tryd.prog 75 #[.pointer (some ⟨s, 0, none⟩), .pointer (some ⟨v, 0, none⟩)] w fun e w' => e = .returned (.tuple #[]) ∧ w = w' := by
  have hc : w.cell? ⟨s, 0, none⟩ = some (.slice none 0 0) := by rw [Lib.cell_of_heap hs]; rfl
  clear hs
  go_enter Tryd.func75, Tryd.ntmps75
  go_wp2_with fail
  refine wp_loop_rounds 1 ?_
  rw [rounds_succ]
  go_wp2_with fail
  go_end0
  exact ⟨rfl, rfl⟩

set_option maxHeartbeats 1000000 in
/-- A list without statements, of the second rank. -/
theorem wstmts_nil (B c : Nat) (l : List UInt8) (w : World) (h : Wr B c l 1 w) (hBw : B ≤ w.heap.size) (hl : l.length ≤ 700000000) :
    Calls Tryd.prog 54 #[.pointer (some ⟨c, 0, none⟩), .slice none 0 0] w (Wrote B c l ([32, 123, 10] ++ ([] ++ ([32, 32] ++ [125]))) 1 w) := by
  have hmf : ∀ (fn : Fn) (first cap : Array Value) (w : World), (Instr.makeFunc fn first cap).run Tryd.prog w = .ok (.func fn first cap) w := fun _ _ _ _ => rfl
  have hlt := h.lt
  have hD1 := (Did.refl B c w).alloc hBw (.cells #[.pointer (some ⟨c, 0, none⟩)] 49)
  have hD2 := hD1.alloc (by simp; omega) (.cells #[.slice none 0 0] 55)
  have HL := Lib.hid (wlist_1 B c (w.heap.size + 1) w.heap.size l [] _ ((h.alloc (.cells #[.pointer (some ⟨c, 0, none⟩)] 49)).alloc (.cells #[.slice none 0 0] 55)) (by simp; omega) (by simp; omega) (fun w' h1 h2 => (lines_nil (w.heap.size + 1) w.heap.size 55 (0, 0) w' (h2.rest _ _ _ _ (by simpa using (MapKept.heap_alloc (w.alloc (.cells #[.pointer (some ⟨c, 0, none⟩)] 49)) (.cells #[.slice none 0 0] 55)).1) (by omega) (by decide))).mono (by
    rintro e w2 ⟨rfl, rfl⟩
    exact ⟨rfl, by rw [List.append_nil]; exact h1, Did.refl B c w'⟩)))
  have HD := Lib.hid hD2
  clear h hD1 hD2
  go_enter Tryd.func54, Tryd.ntmps54
  go_wp2_with fail
  refine HL.out.mono ?_; rintro e w2 hq
  have HE := Lib.hid (wrote_of hq HD.out)
  obtain ⟨rfl, -⟩ := hq
  go_wp2_with fail
  go_end0
  exact HE.out

set_option maxRecDepth 100000 in
set_option maxHeartbeats 2000000 in
theorem lines_5 (B c s v b : Nat) (l t : List UInt8) (T Ts Tv : TypeId) (fr fs fv : Nat × Nat) (w : World) (h : Wr B c l 1 w) (hBw : B ≤ w.heap.size) (hl : l.length + t.length ≤ 700000000)
    (hb : w.heap[b]? = some (.cells #[.int .u8 5, .string ⟨#[]⟩, .int .u8 0, .string ⟨#[]⟩, .int .i64 0, .int .u8 0, .int .i64 0, .string ⟨#[]⟩, .int .u8 0, .string ⟨#[]⟩, .int .i64 0, .slice none 0 0, .int .u8 0, .int .i64 0, .string ⟨#[]⟩, .int .u8 0, .string ⟨#[]⟩, .int .i64 0, .slice none 0 0, .slice none 0 0, .slice none 0 0] T fr)) (hs : w.heap[s]? = some (.cells #[.slice (some ⟨b, 0, none⟩) 1 1] Ts fs)) (hv : w.heap[v]? = some (.cells #[.pointer (some ⟨c, 0, none⟩)] Tv fv)) (hvc : v ≠ c) (hTv : Tv ≠ 5)
    (HS : ∀ l' w', l'.length ≤ l.length + 2 → Wr B c l' 1 w' → Did B c w w' → Calls Tryd.prog 76 #[.pointer (some ⟨c, 0, none⟩), .agg #[.int .u8 5, .string ⟨#[]⟩, .int .u8 0, .string ⟨#[]⟩, .int .i64 0, .int .u8 0, .int .i64 0, .string ⟨#[]⟩, .int .u8 0, .string ⟨#[]⟩, .int .i64 0, .slice none 0 0, .int .u8 0, .int .i64 0, .string ⟨#[]⟩, .int .u8 0, .string ⟨#[]⟩, .int .i64 0, .slice none 0 0, .slice none 0 0, .slice none 0 0]] w' (Wrote B c l' t 1 w')) :
    Calls Tryd.prog 75 #[.pointer (some ⟨s, 0, none⟩), .pointer (some ⟨v, 0, none⟩)] w (Wrote B c l ([32, 32] ++ (t ++ [10])) 1 w) := by
  have hlt := h.lt
  have hvl : v < w.heap.size := (Array.getElem?_eq_some_iff.1 hv).1
  have hcs : w.cell? ⟨s, 0, none⟩ = some (.slice (some ⟨b, 0, none⟩) 1 1) := by rw [Lib.cell_of_heap hs]; rfl
  obtain ⟨W1, hW1⟩ : ∃ W1, W1 = w.alloc (.cells #[.int .u8 5, .string ⟨#[]⟩, .int .u8 0, .string ⟨#[]⟩, .int .i64 0, .int .u8 0, .int .i64 0, .string ⟨#[]⟩, .int .u8 0, .string ⟨#[]⟩, .int .i64 0, .slice none 0 0, .int .u8 0, .int .i64 0, .string ⟨#[]⟩, .int .u8 0, .string ⟨#[]⟩, .int .i64 0, .slice none 0 0, .slice none 0 0, .slice none 0 0] 57) := ⟨_, rfl⟩
  have hz1 : W1.heap.size = w.heap.size + 1 := by rw [hW1]; simp
  have hO1 : W1.heap[w.heap.size]? = some (.cells #[.int .u8 5, .string ⟨#[]⟩, .int .u8 0, .string ⟨#[]⟩, .int .i64 0, .int .u8 0, .int .i64 0, .string ⟨#[]⟩, .int .u8 0, .string ⟨#[]⟩, .int .i64 0, .slice none 0 0, .int .u8 0, .int .i64 0, .string ⟨#[]⟩, .int .u8 0, .string ⟨#[]⟩, .int .i64 0, .slice none 0 0, .slice none 0 0, .slice none 0 0] 57) := by rw [hW1]; exact (MapKept.heap_alloc _ _).1
  have hv1 : W1.heap[v]? = some (.cells #[.pointer (some ⟨c, 0, none⟩)] Tv fv) := by rw [hW1, Below.heap_alloc _ _ _ hvl]; exact hv
  have hD1 : Did B c w W1 := by rw [hW1]; exact (Did.refl B c w).alloc hBw _
  have hM := margin_1 B c l W1 (by rw [hW1]; exact h.alloc _) (by omega) (by omega)
  have hL0 := loadS_of hb
  have hST := storeS_new w #[.int .u8 5, .string ⟨#[]⟩, .int .u8 0, .string ⟨#[]⟩, .int .i64 0, .int .u8 0, .int .i64 0, .string ⟨#[]⟩, .int .u8 0, .string ⟨#[]⟩, .int .i64 0, .slice none 0 0, .int .u8 0, .int .i64 0, .string ⟨#[]⟩, .int .u8 0, .string ⟨#[]⟩, .int .i64 0, .slice none 0 0, .slice none 0 0, .slice none 0 0] (by rfl) (by simp [Value.oneCell'])
  have hcv : W1.cell? ⟨v, 0, none⟩ = some (.pointer (some ⟨c, 0, none⟩)) := by rw [Lib.cell_of_heap hv1]; rfl
  rw [hW1] at hM hcv
  have HM := Lib.hid hM
  have HD1 := Lib.hid hD1
  have HO1 := Lib.hid hO1
  have HV1 := Lib.hid hv1
  have HZ := Lib.hid hW1
  have HSS := Lib.hid HS
  clear h hb hs hv hO1 hv1 hD1 hW1 HS hM
  go_enter Tryd.func75, Tryd.ntmps75
  go_wp2_with fail
  refine wp_loop_rounds 2 ?_
  rw [rounds_succ]
  go_wp2_with fail
  refine HM.out.mono ?_; rintro e w2 hq
  rw [← HZ.out] at hq
  obtain ⟨rfl, hW2, hD2⟩ := hq
  clear hcs hL0 hST hcv
  have hL2 := loadS_of (hD2.rest _ _ _ _ HO1.out (by omega) (by decide))
  have hv2 := hD2.rest _ _ _ _ HV1.out hvc hTv
  have hcv2 : w2.cell? ⟨v, 0, none⟩ = some (.pointer (some ⟨c, 0, none⟩)) := by rw [Lib.cell_of_heap hv2]; rfl
  have HV2 := Lib.hid hv2
  have HD2 := Lib.hid (HD1.out.trans hD2)
  have HC := Lib.hid (HSS.out _ w2 (by simp) hW2 HD2.out)
  clear hW2 hD2 hv2
  go_wp2_with fail
  refine HC.out.mono ?_; rintro e w3 ⟨rfl, hW3, hD3⟩
  clear hL2 hcv2
  have hv3 := hD3.rest _ _ _ _ HV2.out hvc hTv
  have hcv3 : w3.cell? ⟨v, 0, none⟩ = some (.pointer (some ⟨c, 0, none⟩)) := by rw [Lib.cell_of_heap hv3]; rfl
  have HD3 := Lib.hid (HD2.out.trans hD3)
  have HX := Lib.hid (wr1 B c _ 1 [10] w3.heap.size w3 rfl hW3 (Nat.le_trans hBw HD3.out.below.size) (by simp; omega))
  clear hW3 hD3 hv3
  go_wp2_with fail
  refine HX.out.mono ?_; rintro e w4 ⟨rfl, hW4, hD4⟩
  clear hcv3
  have HE := Lib.hid (show Wrote B c l ([32, 32] ++ (t ++ [10])) 1 w (.returned (.tuple #[])) w4 from ⟨rfl, by simpa only [List.append_assoc] using hW4, HD3.out.trans hD4⟩)
  clear hW4 hD4
  go_wp2_with fail
  rw [rounds_succ]
  go_wp2_with fail
  go_end0
  exact HE.out

set_option maxHeartbeats 2000000 in
/-- A thread's list of one statement. -/
theorem wstmts_5 (B c b : Nat) (l t : List UInt8) (T : TypeId) (fr : Nat × Nat) (w : World) (h : Wr B c l 0 w) (hBw : B ≤ w.heap.size) (hl : l.length + t.length ≤ 600000000)
    (hb : w.heap[b]? = some (.cells #[.int .u8 5, .string ⟨#[]⟩, .int .u8 0, .string ⟨#[]⟩, .int .i64 0, .int .u8 0, .int .i64 0, .string ⟨#[]⟩, .int .u8 0, .string ⟨#[]⟩, .int .i64 0, .slice none 0 0, .int .u8 0, .int .i64 0, .string ⟨#[]⟩, .int .u8 0, .string ⟨#[]⟩, .int .i64 0, .slice none 0 0, .slice none 0 0, .slice none 0 0] T fr)) (hbc : b ≠ c) (hT : T ≠ 5)
    (HS : ∀ l' w', l'.length ≤ l.length + 5 → Wr B c l' 1 w' → Did B c w w' → Calls Tryd.prog 76 #[.pointer (some ⟨c, 0, none⟩), .agg #[.int .u8 5, .string ⟨#[]⟩, .int .u8 0, .string ⟨#[]⟩, .int .i64 0, .int .u8 0, .int .i64 0, .string ⟨#[]⟩, .int .u8 0, .string ⟨#[]⟩, .int .i64 0, .slice none 0 0, .int .u8 0, .int .i64 0, .string ⟨#[]⟩, .int .u8 0, .string ⟨#[]⟩, .int .i64 0, .slice none 0 0, .slice none 0 0, .slice none 0 0]] w' (Wrote B c l' t 1 w')) :
    Calls Tryd.prog 54 #[.pointer (some ⟨c, 0, none⟩), .slice (some ⟨b, 0, none⟩) 1 1] w (Wrote B c l ([32, 123, 10] ++ (([32, 32] ++ (t ++ [10])) ++ (([] : List UInt8) ++ [125]))) 0 w) := by
  have hmf : ∀ (fn : Fn) (first cap : Array Value) (w : World), (Instr.makeFunc fn first cap).run Tryd.prog w = .ok (.func fn first cap) w := fun _ _ _ _ => rfl
  have hlt := h.lt
  have hbl : b < w.heap.size := (Array.getElem?_eq_some_iff.1 hb).1
  obtain ⟨W1, hW1⟩ : ∃ W1, W1 = w.alloc (.cells #[.pointer (some ⟨c, 0, none⟩)] 49) := ⟨_, rfl⟩
  have hz1 : W1.heap.size = w.heap.size + 1 := by rw [hW1]; simp
  obtain ⟨W2, hW2⟩ : ∃ W2, W2 = W1.alloc (.cells #[.slice (some ⟨b, 0, none⟩) 1 1] 55) := ⟨_, rfl⟩
  have hz2 : W2.heap.size = w.heap.size + 2 := by rw [hW2]; simp [hz1]
  have hD1 : Did B c w W1 := by rw [hW1]; exact (Did.refl B c w).alloc hBw _
  have hD2 : Did B c w W2 := by rw [hW2]; exact hD1.alloc (by omega) _
  have hR2 : Wr B c l 0 W2 := by rw [hW2, hW1]; exact (h.alloc _).alloc _
  have hv : W2.heap[w.heap.size]? = some (.cells #[.pointer (some ⟨c, 0, none⟩)] 49) := by rw [hW2, Below.heap_alloc _ _ _ (by omega), hW1]; exact (MapKept.heap_alloc _ _).1
  have hs : W2.heap[w.heap.size + 1]? = some (.cells #[.slice (some ⟨b, 0, none⟩) 1 1] 55) := by rw [hW2, ← hz1]; exact (MapKept.heap_alloc _ _).1
  have hb2 : W2.heap[b]? = some (.cells #[.int .u8 5, .string ⟨#[]⟩, .int .u8 0, .string ⟨#[]⟩, .int .i64 0, .int .u8 0, .int .i64 0, .string ⟨#[]⟩, .int .u8 0, .string ⟨#[]⟩, .int .i64 0, .slice none 0 0, .int .u8 0, .int .i64 0, .string ⟨#[]⟩, .int .u8 0, .string ⟨#[]⟩, .int .i64 0, .slice none 0 0, .slice none 0 0, .slice none 0 0] T fr) := by rw [hW2, Below.heap_alloc _ _ _ (by omega), hW1, Below.heap_alloc _ _ _ hbl]; exact hb
  have hL := wlist_0 B c (w.heap.size + 1) w.heap.size l ([32, 32] ++ (t ++ [10])) W2 hR2 (by omega) (by simp; omega) (fun w' h1 h2 =>
    lines_5 B c (w.heap.size + 1) w.heap.size b (l ++ [32, 123, 10]) t T 55 49 fr (0, 0) (0, 0) w' h1 (Nat.le_trans (by omega) h2.below.size) (by simp; omega)
      (h2.rest _ _ _ _ hb2 hbc hT) (h2.rest _ _ _ _ hs (by omega) (by decide)) (h2.rest _ _ _ _ hv (by omega) (by decide)) (by omega) (by decide)
      (fun l' w'' hl' h3 h4 => HS l' w'' (by simp at hl'; omega) h3 (hD2.trans (h2.trans h4))))
  rw [hW2, hW1] at hL
  have HL := Lib.hid hL
  have HD := Lib.hid hD2
  rw [hW2, hW1] at HD
  clear h hb HS hD1 hD2 hR2 hv hs hb2 hL hW2 hW1 hz1 hz2
  go_enter Tryd.func54, Tryd.ntmps54
  go_wp2_with fail
  refine HL.out.mono ?_; rintro e w2 hq
  have HE := Lib.hid (wrote_of hq HD.out)
  obtain ⟨rfl, -⟩ := hq
  go_wp2_with fail
  go_end0
  exact HE.out

set_option maxRecDepth 100000 in
set_option maxHeartbeats 2000000 in
theorem lines_6 (B c s v b : Nat) (k n tk tz : Int) (nm tn : ByteArray) (ao : Option Addr) (m cap : Nat) (l t : List UInt8) (T Ts Tv : TypeId) (fr fs fv : Nat × Nat) (w : World) (h : Wr B c l 1 w) (hBw : B ≤ w.heap.size) (hl : l.length + t.length ≤ 700000000)
    (hb : w.heap[b]? = some (.cells #[.int .u8 6, .string ⟨#[]⟩, .int .u8 0, .string ⟨#[]⟩, .int .i64 0, .int .u8 k, .int .i64 n, .string nm, .int .u8 tk, .string tn, .int .i64 tz, .slice ao m cap, .int .u8 0, .int .i64 0, .string ⟨#[]⟩, .int .u8 0, .string ⟨#[]⟩, .int .i64 0, .slice none 0 0, .slice none 0 0, .slice none 0 0] T fr)) (hs : w.heap[s]? = some (.cells #[.slice (some ⟨b, 0, none⟩) 1 1] Ts fs)) (hv : w.heap[v]? = some (.cells #[.pointer (some ⟨c, 0, none⟩)] Tv fv)) (hvc : v ≠ c) (hTv : Tv ≠ 5)
    (HS : ∀ l' w', l'.length ≤ l.length + 2 → Wr B c l' 1 w' → Did B c w w' → Calls Tryd.prog 76 #[.pointer (some ⟨c, 0, none⟩), .agg #[.int .u8 6, .string ⟨#[]⟩, .int .u8 0, .string ⟨#[]⟩, .int .i64 0, .int .u8 k, .int .i64 n, .string nm, .int .u8 tk, .string tn, .int .i64 tz, .slice ao m cap, .int .u8 0, .int .i64 0, .string ⟨#[]⟩, .int .u8 0, .string ⟨#[]⟩, .int .i64 0, .slice none 0 0, .slice none 0 0, .slice none 0 0]] w' (Wrote B c l' t 1 w')) :
    Calls Tryd.prog 75 #[.pointer (some ⟨s, 0, none⟩), .pointer (some ⟨v, 0, none⟩)] w (Wrote B c l ([32, 32] ++ (t ++ [10])) 1 w) := by
  have hlt := h.lt
  have hvl : v < w.heap.size := (Array.getElem?_eq_some_iff.1 hv).1
  have hcs : w.cell? ⟨s, 0, none⟩ = some (.slice (some ⟨b, 0, none⟩) 1 1) := by rw [Lib.cell_of_heap hs]; rfl
  obtain ⟨W1, hW1⟩ : ∃ W1, W1 = w.alloc (.cells #[.int .u8 6, .string ⟨#[]⟩, .int .u8 0, .string ⟨#[]⟩, .int .i64 0, .int .u8 k, .int .i64 n, .string nm, .int .u8 tk, .string tn, .int .i64 tz, .slice ao m cap, .int .u8 0, .int .i64 0, .string ⟨#[]⟩, .int .u8 0, .string ⟨#[]⟩, .int .i64 0, .slice none 0 0, .slice none 0 0, .slice none 0 0] 57) := ⟨_, rfl⟩
  have hz1 : W1.heap.size = w.heap.size + 1 := by rw [hW1]; simp
  have hO1 : W1.heap[w.heap.size]? = some (.cells #[.int .u8 6, .string ⟨#[]⟩, .int .u8 0, .string ⟨#[]⟩, .int .i64 0, .int .u8 k, .int .i64 n, .string nm, .int .u8 tk, .string tn, .int .i64 tz, .slice ao m cap, .int .u8 0, .int .i64 0, .string ⟨#[]⟩, .int .u8 0, .string ⟨#[]⟩, .int .i64 0, .slice none 0 0, .slice none 0 0, .slice none 0 0] 57) := by rw [hW1]; exact (MapKept.heap_alloc _ _).1
  have hv1 : W1.heap[v]? = some (.cells #[.pointer (some ⟨c, 0, none⟩)] Tv fv) := by rw [hW1, Below.heap_alloc _ _ _ hvl]; exact hv
  have hD1 : Did B c w W1 := by rw [hW1]; exact (Did.refl B c w).alloc hBw _
  have hM := margin_1 B c l W1 (by rw [hW1]; exact h.alloc _) (by omega) (by omega)
  have hL0 := loadS_of hb
  have hST := storeS_new w #[.int .u8 6, .string ⟨#[]⟩, .int .u8 0, .string ⟨#[]⟩, .int .i64 0, .int .u8 k, .int .i64 n, .string nm, .int .u8 tk, .string tn, .int .i64 tz, .slice ao m cap, .int .u8 0, .int .i64 0, .string ⟨#[]⟩, .int .u8 0, .string ⟨#[]⟩, .int .i64 0, .slice none 0 0, .slice none 0 0, .slice none 0 0] (by rfl) (by simp [Value.oneCell'])
  have hcv : W1.cell? ⟨v, 0, none⟩ = some (.pointer (some ⟨c, 0, none⟩)) := by rw [Lib.cell_of_heap hv1]; rfl
  rw [hW1] at hM hcv
  have HM := Lib.hid hM
  have HD1 := Lib.hid hD1
  have HO1 := Lib.hid hO1
  have HV1 := Lib.hid hv1
  have HZ := Lib.hid hW1
  have HSS := Lib.hid HS
  clear h hb hs hv hO1 hv1 hD1 hW1 HS hM
  go_enter Tryd.func75, Tryd.ntmps75
  go_wp2_with fail
  refine wp_loop_rounds 2 ?_
  rw [rounds_succ]
  go_wp2_with fail
  refine HM.out.mono ?_; rintro e w2 hq
  rw [← HZ.out] at hq
  obtain ⟨rfl, hW2, hD2⟩ := hq
  clear hcs hL0 hST hcv
  have hL2 := loadS_of (hD2.rest _ _ _ _ HO1.out (by omega) (by decide))
  have hv2 := hD2.rest _ _ _ _ HV1.out hvc hTv
  have hcv2 : w2.cell? ⟨v, 0, none⟩ = some (.pointer (some ⟨c, 0, none⟩)) := by rw [Lib.cell_of_heap hv2]; rfl
  have HV2 := Lib.hid hv2
  have HD2 := Lib.hid (HD1.out.trans hD2)
  have HC := Lib.hid (HSS.out _ w2 (by simp) hW2 HD2.out)
  clear hW2 hD2 hv2
  go_wp2_with fail
  refine HC.out.mono ?_; rintro e w3 ⟨rfl, hW3, hD3⟩
  clear hL2 hcv2
  have hv3 := hD3.rest _ _ _ _ HV2.out hvc hTv
  have hcv3 : w3.cell? ⟨v, 0, none⟩ = some (.pointer (some ⟨c, 0, none⟩)) := by rw [Lib.cell_of_heap hv3]; rfl
  have HD3 := Lib.hid (HD2.out.trans hD3)
  have HX := Lib.hid (wr1 B c _ 1 [10] w3.heap.size w3 rfl hW3 (Nat.le_trans hBw HD3.out.below.size) (by simp; omega))
  clear hW3 hD3 hv3
  go_wp2_with fail
  refine HX.out.mono ?_; rintro e w4 ⟨rfl, hW4, hD4⟩
  clear hcv3
  have HE := Lib.hid (show Wrote B c l ([32, 32] ++ (t ++ [10])) 1 w (.returned (.tuple #[])) w4 from ⟨rfl, by simpa only [List.append_assoc] using hW4, HD3.out.trans hD4⟩)
  clear hW4 hD4
  go_wp2_with fail
  rw [rounds_succ]
  go_wp2_with fail
  go_end0
  exact HE.out

set_option maxHeartbeats 2000000 in
/-- A thread's list of one statement. -/
theorem wstmts_6 (B c b : Nat) (k n tk tz : Int) (nm tn : ByteArray) (ao : Option Addr) (m cap : Nat) (l t : List UInt8) (T : TypeId) (fr : Nat × Nat) (w : World) (h : Wr B c l 0 w) (hBw : B ≤ w.heap.size) (hl : l.length + t.length ≤ 600000000)
    (hb : w.heap[b]? = some (.cells #[.int .u8 6, .string ⟨#[]⟩, .int .u8 0, .string ⟨#[]⟩, .int .i64 0, .int .u8 k, .int .i64 n, .string nm, .int .u8 tk, .string tn, .int .i64 tz, .slice ao m cap, .int .u8 0, .int .i64 0, .string ⟨#[]⟩, .int .u8 0, .string ⟨#[]⟩, .int .i64 0, .slice none 0 0, .slice none 0 0, .slice none 0 0] T fr)) (hbc : b ≠ c) (hT : T ≠ 5)
    (HS : ∀ l' w', l'.length ≤ l.length + 5 → Wr B c l' 1 w' → Did B c w w' → Calls Tryd.prog 76 #[.pointer (some ⟨c, 0, none⟩), .agg #[.int .u8 6, .string ⟨#[]⟩, .int .u8 0, .string ⟨#[]⟩, .int .i64 0, .int .u8 k, .int .i64 n, .string nm, .int .u8 tk, .string tn, .int .i64 tz, .slice ao m cap, .int .u8 0, .int .i64 0, .string ⟨#[]⟩, .int .u8 0, .string ⟨#[]⟩, .int .i64 0, .slice none 0 0, .slice none 0 0, .slice none 0 0]] w' (Wrote B c l' t 1 w')) :
    Calls Tryd.prog 54 #[.pointer (some ⟨c, 0, none⟩), .slice (some ⟨b, 0, none⟩) 1 1] w (Wrote B c l ([32, 123, 10] ++ (([32, 32] ++ (t ++ [10])) ++ (([] : List UInt8) ++ [125]))) 0 w) := by
  have hmf : ∀ (fn : Fn) (first cap : Array Value) (w : World), (Instr.makeFunc fn first cap).run Tryd.prog w = .ok (.func fn first cap) w := fun _ _ _ _ => rfl
  have hlt := h.lt
  have hbl : b < w.heap.size := (Array.getElem?_eq_some_iff.1 hb).1
  obtain ⟨W1, hW1⟩ : ∃ W1, W1 = w.alloc (.cells #[.pointer (some ⟨c, 0, none⟩)] 49) := ⟨_, rfl⟩
  have hz1 : W1.heap.size = w.heap.size + 1 := by rw [hW1]; simp
  obtain ⟨W2, hW2⟩ : ∃ W2, W2 = W1.alloc (.cells #[.slice (some ⟨b, 0, none⟩) 1 1] 55) := ⟨_, rfl⟩
  have hz2 : W2.heap.size = w.heap.size + 2 := by rw [hW2]; simp [hz1]
  have hD1 : Did B c w W1 := by rw [hW1]; exact (Did.refl B c w).alloc hBw _
  have hD2 : Did B c w W2 := by rw [hW2]; exact hD1.alloc (by omega) _
  have hR2 : Wr B c l 0 W2 := by rw [hW2, hW1]; exact (h.alloc _).alloc _
  have hv : W2.heap[w.heap.size]? = some (.cells #[.pointer (some ⟨c, 0, none⟩)] 49) := by rw [hW2, Below.heap_alloc _ _ _ (by omega), hW1]; exact (MapKept.heap_alloc _ _).1
  have hs : W2.heap[w.heap.size + 1]? = some (.cells #[.slice (some ⟨b, 0, none⟩) 1 1] 55) := by rw [hW2, ← hz1]; exact (MapKept.heap_alloc _ _).1
  have hb2 : W2.heap[b]? = some (.cells #[.int .u8 6, .string ⟨#[]⟩, .int .u8 0, .string ⟨#[]⟩, .int .i64 0, .int .u8 k, .int .i64 n, .string nm, .int .u8 tk, .string tn, .int .i64 tz, .slice ao m cap, .int .u8 0, .int .i64 0, .string ⟨#[]⟩, .int .u8 0, .string ⟨#[]⟩, .int .i64 0, .slice none 0 0, .slice none 0 0, .slice none 0 0] T fr) := by rw [hW2, Below.heap_alloc _ _ _ (by omega), hW1, Below.heap_alloc _ _ _ hbl]; exact hb
  have hL := wlist_0 B c (w.heap.size + 1) w.heap.size l ([32, 32] ++ (t ++ [10])) W2 hR2 (by omega) (by simp; omega) (fun w' h1 h2 =>
    lines_6 B c (w.heap.size + 1) w.heap.size b k n tk tz nm tn ao m cap (l ++ [32, 123, 10]) t T 55 49 fr (0, 0) (0, 0) w' h1 (Nat.le_trans (by omega) h2.below.size) (by simp; omega)
      (h2.rest _ _ _ _ hb2 hbc hT) (h2.rest _ _ _ _ hs (by omega) (by decide)) (h2.rest _ _ _ _ hv (by omega) (by decide)) (by omega) (by decide)
      (fun l' w'' hl' h3 h4 => HS l' w'' (by simp at hl'; omega) h3 (hD2.trans (h2.trans h4))))
  rw [hW2, hW1] at hL
  have HL := Lib.hid hL
  have HD := Lib.hid hD2
  rw [hW2, hW1] at HD
  clear h hb HS hD1 hD2 hR2 hv hs hb2 hL hW2 hW1 hz1 hz2
  go_enter Tryd.func54, Tryd.ntmps54
  go_wp2_with fail
  refine HL.out.mono ?_; rintro e w2 hq
  have HE := Lib.hid (wrote_of hq HD.out)
  obtain ⟨rfl, -⟩ := hq
  go_wp2_with fail
  go_end0
  exact HE.out
end Go.Proofs.YtflbplljlkpeiaaDoor
