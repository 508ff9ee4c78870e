/- What the show layer's writer writes of an expression that has a sign ahead of its operand, or between two. -/
import Derived.Test.YtflbplljlkpeiaaDoorRows
import Derived.Test.YtflbplljlkpeiaaDoorShowHead
import Derived.Test.YtflbplljlkpeiaaDoorShowDigit
import Derived.Deep.DrawnRows
import Derived.RegionTactic
import Derived.Deep.RegionHeld3
import Derived.WalkKit
import Derived.WalkSpells
import Derived.WalkLawsBesides
import Derived.Lib.Hide
namespace Go.Proofs.YtflbplljlkpeiaaDoor
open Go.RowKit
attribute [local go_sem ↓] Go.wp_at_zero Go.wp_at_succ

theorem slice_of {w : World} {B : Nat} {a : X} (h : InW w B a) : ∃ ao n c, a.s = .slice ao n c := by
  cases h with
  | mk _ _ _ _ h2 _ =>
    obtain ⟨ao, c, e, _⟩ := h2
    exact ⟨ao, _, c, e⟩

/-- The first part of an expression, as it lies in memory. -/
theorem kid0 {w : World} {B : Nat} {h : Hd} {s : Value} {a : X} {r : List X} (hI : InW w B (.mk h s (a :: r))) : ∃ g off cap ao n2 c2, s = .slice (some ⟨g, off, none⟩) (r.length + 1) cap ∧ g < B ∧ r.length + 1 ≤ 9223372036854775807 ∧ a.s = .slice ao n2 c2 ∧
    w.cell? ⟨g, off, none⟩ = some (.int .u8 a.hd.k) ∧ w.cell? ⟨g, off + 1, none⟩ = some (.int .i64 a.hd.n) ∧ w.cell? ⟨g, off + 2, none⟩ = some (.string a.hd.name) ∧ w.cell? ⟨g, off + 3, none⟩ = some (.int .u8 a.hd.tk) ∧
    w.cell? ⟨g, off + 4, none⟩ = some (.string a.hd.tn) ∧ w.cell? ⟨g, off + 5, none⟩ = some (.int .i64 a.hd.tz) ∧ w.cell? ⟨g, off + 6, none⟩ = some (.slice ao n2 c2) := by
  cases hI with
  | mk _ _ _ _ hl hin =>
    obtain ⟨g, off, cap, hs, hg, hlen, hc⟩ := lies_first hl
    obtain ⟨ao, n2, c2, e⟩ := slice_of (hin a (by simp))
    obtain ⟨p0, p1, p2, p3, p4, p5, p6⟩ := cells7 hc
    exact ⟨g, off, cap, ao, n2, c2, hs, hg, hlen, e, p0, p1, p2, p3, p4, p5, by rw [← e]; exact p6⟩

theorem val_of {a : X} {v : Value} (e : a.s = v) : a.val = .agg #[.int .u8 a.hd.k, .int .i64 a.hd.n, .string a.hd.name, .int .u8 a.hd.tk, .string a.hd.tn, .int .i64 a.hd.tz, v] := by rw [← e]
theorem fine_kids {h : Hd} {s : Value} {l : List X} (hf : Fine (.mk h s l)) : form h l.length = 0 ∧ ∀ a ∈ l, Fine a := by
  cases hf with | mk _ _ _ h1 h2 => exact ⟨h1, h2⟩
theorem in_kids {w : World} {B : Nat} {h : Hd} {s : Value} {l : List X} (hI : InW w B (.mk h s l)) : HdOk h ∧ ∀ a ∈ l, InW w B a := by
  cases hI with | mk _ _ _ h1 _ h3 => exact ⟨h1, h3⟩
theorem wrote_more {B c : Nat} {l t u : List UInt8} {d : Int} {w w1 w2 : World} {e : Ending} (h : Wrote B c (l ++ t) u d w1 e w2) (hD : Did B c w w1) : Wrote B c l (t ++ u) d w e w2 :=
  ⟨h.1, by rw [← List.append_assoc]; exact h.2.1, hD.trans h.2.2⟩

set_option maxHeartbeats 1000000 in
theorem signed_not (h : Hd) (s : Value) (a : X) (r : List X) (hE : EX a) (hk : h.k = 9) (hf : Fine (.mk h s (a :: r))) (B c : Nat) (l : List UInt8) (d : Int) (w : World) (hw : Wr B c l d w) (hBw : B ≤ w.heap.size) (hI : InW w B (.mk h s (a :: r))) (hK : Knows B w)
    (hl : l.length + 100 * X.size (.mk h s (a :: r)) ≤ 1000000000) (hs : a.txt.length + 40 ≤ 100 * X.size a) :
    Calls Tryd.prog 49 #[.pointer (some ⟨c, 0, none⟩), X.val (.mk h s (a :: r))] w (Wrote B c l ([33] ++ partT (pairK a.hd.k) a.txt) d w) := by
  obtain ⟨k, n, nm, tk, tn, tz⟩ := h
  obtain ⟨g, off, cap, ao, n2, c2, rfl, hg, hlen, ea, p0, p1, p2, p3, p4, p5, p6⟩ := kid0 hI
  obtain rfl : k = 9 := hk
  have hc := hw.lt
  have hgs : g < w.heap.size := by omega
  rw [size_mk, sizes_cons] at hl
  obtain ⟨W1, hW1⟩ : ∃ W1, W1 = (w.alloc (.cells #[.int .u8 9, .int .i64 n, .string nm, .int .u8 tk, .string tn, .int .i64 tz, .slice (some ⟨g, off, none⟩) (r.length + 1) cap] 33)).alloc (.cells #[.int .u8 a.hd.k, .int .i64 a.hd.n, .string a.hd.name, .int .u8 a.hd.tk, .string a.hd.tn, .int .i64 a.hd.tz, .slice ao n2 c2] 33) := ⟨_, rfl⟩
  have hz1 : W1.heap.size = w.heap.size + 2 := by rw [hW1]; simp
  have hD : Did B c w W1 := by rw [hW1]; exact ((Did.refl B c w).alloc hBw _).alloc (by simp; omega) _
  have hw1 : Wr B c l d W1 := by rw [hW1]; exact (hw.alloc _).alloc _
  have hO : W1.heap[w.heap.size + 1]? = some (.cells #[.int .u8 a.hd.k, .int .i64 a.hd.n, .string a.hd.name, .int .u8 a.hd.tk, .string a.hd.tn, .int .i64 a.hd.tz, .slice ao n2 c2] 33 (0, 0)) := by
    rw [hW1, show w.heap.size + 1 = (w.alloc (.cells #[.int .u8 9, .int .i64 n, .string nm, .int .u8 tk, .string tn, .int .i64 tz, .slice (some ⟨g, off, none⟩) (r.length + 1) cap] 33)).heap.size by simp]
    exact (MapKept.heap_alloc _ _).1
  have hX := write1 B c l d ⟨#[33]⟩ (w.heap.size + 1 + 1) W1 (by omega) hw1 (by omega) (by show _ + 1 ≤ _; omega)
  rw [hW1] at hX
  have HX := Lib.hid hX
  have HO := Lib.hid hO
  have HD := Lib.hid hD
  have HA := Lib.hid (fun w' h1 h2 h3 h4 => operand_any a hE ((fine_kids hf).2 a (by simp)) B c (l ++ [33]) d w' h1 h2 h3 h4 (by simp; omega) hs)
  have HI := Lib.hid ((in_kids hI).2 a (by simp))
  have HK := Lib.hid hK
  have HV := Lib.hid (val_of ea)
  have HZ := Lib.hid hW1
  show Calls Tryd.prog 49 #[.pointer (some ⟨c, 0, none⟩), .agg #[.int .u8 9, .int .i64 n, .string nm, .int .u8 tk, .string tn, .int .i64 tz, .slice (some ⟨g, off, none⟩) (r.length + 1) cap]] w _
  clear hw hI hK hE hf ea hX hO hD hw1 hW1
  go_enter Tryd.func49, Tryd.ntmps49
  go_wp2_with fail
  refine HX.out.mono ?_; rintro e w2 ⟨rfl, hW2, hD2⟩
  rw [← HZ.out] at hD2
  have hs2 := hD2.below.size
  obtain ⟨q0, q1, q2, q3, q4, q5, q6⟩ := own7 (hD2.rest _ _ _ _ HO.out (by omega) (by decide))
  have HD2 := Lib.hid (HD.out.trans hD2)
  have hP := HA.out w2 hW2 (by omega) (InW.keeps HD2.out.below _ HI.out) (HK.out.below HD2.out.below)
  rw [HV.out] at hP
  have HP := Lib.hid hP
  clear hW2 hD2 hP
  go_wp2_with (go_at_call 72; refine HP.out.mono ?_; rintro e w3 hq; obtain ⟨rfl, hW3, hD3⟩ := wrote_more hq HD2.out)
  go_end0
  exact ⟨rfl, hW3, hD3⟩

set_option maxHeartbeats 1000000 in
theorem signed_neg_pair (h : Hd) (s : Value) (a : X) (r : List X) (hE : EX a) (hk : h.k = 8) (hf : Fine (.mk h s (a :: r))) (B c : Nat) (l : List UInt8) (d : Int) (w : World) (hw : Wr B c l d w) (hBw : B ≤ w.heap.size) (hI : InW w B (.mk h s (a :: r))) (hK : Knows B w)
    (hl : l.length + 100 * X.size (.mk h s (a :: r)) ≤ 1000000000) (hs : a.txt.length + 40 ≤ 100 * X.size a) (hp : pairK a.hd.k = true) :
    Calls Tryd.prog 49 #[.pointer (some ⟨c, 0, none⟩), X.val (.mk h s (a :: r))] w (Wrote B c l ([45] ++ partT true a.txt) d w) := by
  obtain ⟨k, n, nm, tk, tn, tz⟩ := h
  obtain ⟨g, off, cap, ao, n2, c2, rfl, hg, hlen, ea, p0, p1, p2, p3, p4, p5, p6⟩ := kid0 hI
  obtain rfl : k = 8 := hk
  have hc := hw.lt
  have hgs : g < w.heap.size := by omega
  rw [size_mk, sizes_cons] at hl
  obtain ⟨W1, hW1⟩ : ∃ W1, W1 = (w.alloc (.cells #[.int .u8 8, .int .i64 n, .string nm, .int .u8 tk, .string tn, .int .i64 tz, .slice (some ⟨g, off, none⟩) (r.length + 1) cap] 33)).alloc (.cells #[.int .u8 a.hd.k, .int .i64 a.hd.n, .string a.hd.name, .int .u8 a.hd.tk, .string a.hd.tn, .int .i64 a.hd.tz, .slice ao n2 c2] 33) := ⟨_, rfl⟩
  have hz1 : W1.heap.size = w.heap.size + 2 := by rw [hW1]; simp
  have hD : Did B c w W1 := by rw [hW1]; exact ((Did.refl B c w).alloc hBw _).alloc (by simp; omega) _
  have hw1 : Wr B c l d W1 := by rw [hW1]; exact (hw.alloc _).alloc _
  have hO : W1.heap[w.heap.size + 1]? = some (.cells #[.int .u8 a.hd.k, .int .i64 a.hd.n, .string a.hd.name, .int .u8 a.hd.tk, .string a.hd.tn, .int .i64 a.hd.tz, .slice ao n2 c2] 33 (0, 0)) := by
    rw [hW1, show w.heap.size + 1 = (w.alloc (.cells #[.int .u8 8, .int .i64 n, .string nm, .int .u8 tk, .string tn, .int .i64 tz, .slice (some ⟨g, off, none⟩) (r.length + 1) cap] 33)).heap.size by simp]
    exact (MapKept.heap_alloc _ _).1
  have hX := write1 B c l d ⟨#[45]⟩ (w.heap.size + 1 + 1) W1 (by omega) hw1 (by omega) (by show _ + 1 ≤ _; omega)
  rw [hW1] at hX
  have HX := Lib.hid hX
  have HO := Lib.hid hO
  have HD := Lib.hid hD
  have HA := Lib.hid (fun w' h1 h2 h3 h4 => part_any a hE true B c (l ++ [45]) d w' h1 h2 h3 h4 (by simp; omega) hs)
  obtain ⟨x, hx⟩ : ∃ x, wants a.hd.k = some x := by cases (fine_kids hf).2 a (by simp) with | mk _ _ _ hform _ => exact wants_of hform
  have hPP := fun w' (hw : Wr B c (l ++ [45]) d w') => pair_any B c (l ++ [45]) d a.hd.k a.hd.n a.hd.tk a.hd.tz a.hd.name a.hd.tn (.slice ao n2 c2) x w' hw hx
  rw [hp] at hPP
  have HPP := Lib.hid hPP
  have HI := Lib.hid ((in_kids hI).2 a (by simp))
  have HK := Lib.hid hK
  have HV := Lib.hid (val_of ea)
  have HZ := Lib.hid hW1
  show Calls Tryd.prog 49 #[.pointer (some ⟨c, 0, none⟩), .agg #[.int .u8 8, .int .i64 n, .string nm, .int .u8 tk, .string tn, .int .i64 tz, .slice (some ⟨g, off, none⟩) (r.length + 1) cap]] w _
  clear hx hPP hp
  clear hw hI hK hE hf ea hX hO hD hw1 hW1
  go_enter Tryd.func49, Tryd.ntmps49
  go_wp2_with fail
  refine HX.out.mono ?_; rintro e w2 ⟨rfl, hW2, hD2⟩
  rw [← HZ.out] at hD2
  have hs2 := hD2.below.size
  have hO2 := hD2.rest _ _ _ _ HO.out (by omega) (by decide)
  have hS2 := OwnX.of hO2
  have HS2 := Lib.hid hS2
  obtain ⟨q0, q1, q2, q3, q4, q5, q6⟩ := hS2
  have HO2 := Lib.hid hO2
  have HD2 := Lib.hid (HD.out.trans hD2)
  have HW2 := Lib.hid hW2
  clear hW2 hD2 hO2
  go_wp2_with fail
  refine wp_region_held_drew (S := OwnX (w.heap.size + 1) a.hd.k a.hd.n a.hd.tk a.hd.tz a.hd.name a.hd.tn (.slice ao n2 c2)) (by kernel_rfl) (HS2.out) (fun hSw => ?_)
  refine wpAnyH_take (i := 0) (oi := { dst := some 36, op := Op.move (Operand.tmp 0), type := 49, pos := "write.go:218", after := #[], guard := none }) (v := .pointer (some ⟨c, 0, none⟩)) rfl (by kernel_rfl) (by kernel_rfl) (by kernel_rfl) (fun _ _ _ h => h) (Or.inl ⟨by rfl, fun W hW => ?_⟩) hSw ?_
  · obtain ⟨s0, s1, s2, s3, s4, s5, s6⟩ := hW
    first | (go_simp; done) | rfl
  try simp only [Act.put, List.setIfInBounds_toArray, List.set_cons_zero, List.set_cons_succ]
  refine wpAnyH_take (i := 1) (oi := { dst := some 37, op := Op.load 33 (Operand.tmp 4), type := 33, pos := "write.go:218", after := #[], guard := none }) (v := .agg #[.int .u8 a.hd.k, .int .i64 a.hd.n, .string a.hd.name, .int .u8 a.hd.tk, .string a.hd.tn, .int .i64 a.hd.tz, .slice ao n2 c2]) rfl (by kernel_rfl) (by kernel_rfl) (by kernel_rfl) (fun _ _ _ h => h) (Or.inl ⟨by rfl, fun W hW => ?_⟩) hSw ?_
  · obtain ⟨s0, s1, s2, s3, s4, s5, s6⟩ := hW
    first | (go_simp; done) | rfl
  try simp only [Act.put, List.setIfInBounds_toArray, List.set_cons_zero, List.set_cons_succ]
  refine wpAnyH_take (i := 2) (oi := { dst := some 38, op := Op.move (Operand.tmp 0), type := 49, pos := "write.go:218", after := #[], guard := none }) (v := .pointer (some ⟨c, 0, none⟩)) rfl (by kernel_rfl) (by kernel_rfl) (by kernel_rfl) (fun _ _ _ h => h) (Or.inl ⟨by rfl, fun W hW => ?_⟩) hSw ?_
  · obtain ⟨s0, s1, s2, s3, s4, s5, s6⟩ := hW
    first | (go_simp; done) | rfl
  try simp only [Act.put, List.setIfInBounds_toArray, List.set_cons_zero, List.set_cons_succ]
  refine wpAnyH_take (i := 3) (oi := { dst := some 39, op := Op.load 33 (Operand.tmp 4), type := 33, pos := "write.go:218", after := #[], guard := none }) (v := .agg #[.int .u8 a.hd.k, .int .i64 a.hd.n, .string a.hd.name, .int .u8 a.hd.tk, .string a.hd.tn, .int .i64 a.hd.tz, .slice ao n2 c2]) rfl (by kernel_rfl) (by kernel_rfl) (by kernel_rfl) (fun _ _ _ h => h) (Or.inl ⟨by rfl, fun W hW => ?_⟩) hSw ?_
  · obtain ⟨s0, s1, s2, s3, s4, s5, s6⟩ := hW
    first | (go_simp; done) | rfl
  try simp only [Act.put, List.setIfInBounds_toArray, List.set_cons_zero, List.set_cons_succ]
  refine wpAnyH_ready (rs := [4]) (by kernel_rfl) (by simp) ?_
  refine AllReadyH.cons (o := { dst := some 40, op := Op.call { callee := Callee.value (Operand.func 69), args := #[Operand.tmp 38, Operand.tmp 39], argTypes := #[49, 33] }, type := 4, pos := "write.go:218", after := #[{ on := 2, ground := Ground.data }, { on := 3, ground := Ground.data }], guard := none }) rfl (fun K hK => ?_) AllReadyH.nil
  rw [if_pos (by rfl)]
  clear hSw
  go_simp
  refine (HPP.out _ (HW2.out.drew)).mono ?_
  rintro e w3 ⟨rfl, hb3⟩
  have hs3 := hb3.size
  simp at hs3
  have hO3 := (hb3.block _ (by simp; omega)).trans HO2.out
  have HS3 := Lib.hid (OwnX.of hO3)
  have HW3 := Lib.hid (HW2.out.drew.below hb3)
  have HD3 := Lib.hid (HD2.out.grew (by omega) (Below.drew (Below.refl _ _)) |>.grew (by simp; omega) hb3)
  have HO3 := Lib.hid hO3
  clear hb3 hO3
  refine hK.out _ _ HS3.out (fun hSw => ?_)
  clear hK K
  try simp only [Act.put, List.setIfInBounds_toArray, List.set_cons_zero, List.set_cons_succ]
  refine wpAnyH_take (i := 5) (oi := { dst := some 41, op := Op.move (Operand.tmp 40), type := 4, pos := "write.go:218", after := #[{ on := 4, ground := Ground.data }, { on := 4, ground := Ground.chain }], guard := none }) (v := .bool true) rfl (by kernel_rfl) (by kernel_rfl) (by kernel_rfl) (fun _ _ _ h => h) (Or.inl ⟨by rfl, fun W hW => ?_⟩) hSw ?_
  · obtain ⟨s0, s1, s2, s3, s4, s5, s6⟩ := hW
    first | (go_simp; done) | rfl
  try simp only [Act.put, List.setIfInBounds_toArray, List.set_cons_zero, List.set_cons_succ]
  refine wpAnyH_take (i := 6) (oi := { dst := some 42, op := Op.load 33 (Operand.tmp 4), type := 33, pos := "write.go:218", after := #[{ on := 5, ground := Ground.guard }], guard := some (5, false) }) (v := undef) rfl (by kernel_rfl) (by kernel_rfl) (by kernel_rfl) (fun _ _ _ h => h) (Or.inr ⟨by rfl, rfl⟩) hSw ?_
  try simp only [Act.put, List.setIfInBounds_toArray, List.set_cons_zero, List.set_cons_succ]
  refine wpAnyH_take (i := 7) (oi := { dst := some 43, op := Op.call { callee := Callee.value (Operand.func 71), args := #[Operand.tmp 42], argTypes := #[33] }, type := 4, pos := "write.go:218", after := #[{ on := 6, ground := Ground.data }, { on := 5, ground := Ground.chain }, { on := 5, ground := Ground.guard }], guard := some (5, false) }) (v := undef) rfl (by kernel_rfl) (by kernel_rfl) (by kernel_rfl) (fun _ _ _ h => h) (Or.inr ⟨by rfl, rfl⟩) hSw ?_
  try simp only [Act.put, List.setIfInBounds_toArray, List.set_cons_zero, List.set_cons_succ]
  refine wpAnyH_take (i := 8) (oi := { dst := some 44, op := Op.pick (Operand.tmp 41) (Operand.const (Value.bool true)) (Operand.tmp 43), type := 4, pos := "write.go:218", after := #[{ on := 5, ground := Ground.data }, { on := 7, ground := Ground.data }], guard := none }) (v := .bool true) rfl (by kernel_rfl) (by kernel_rfl) (by kernel_rfl) (fun _ _ _ h => h) (Or.inl ⟨by rfl, fun W hW => ?_⟩) hSw ?_
  · obtain ⟨s0, s1, s2, s3, s4, s5, s6⟩ := hW
    first | (go_simp; done) | rfl
  try simp only [Act.put, List.setIfInBounds_toArray, List.set_cons_zero, List.set_cons_succ]
  refine wpAnyH_ready (rs := [9]) (by kernel_rfl) (by simp) ?_
  refine AllReadyH.cons (o := { dst := some 45, op := Op.call { callee := Callee.value (Operand.func 68), args := #[Operand.tmp 36, Operand.tmp 37, Operand.tmp 44], argTypes := #[49, 33, 4] }, type := 0, pos := "write.go:218", after := #[{ on := 0, ground := Ground.data }, { on := 1, ground := Ground.data }, { on := 8, ground := Ground.data }, { on := 7, ground := Ground.chain }], guard := none }) rfl (fun K hK => ?_) AllReadyH.nil
  rw [if_pos (by rfl)]
  clear hSw
  go_simp
  have hP := HA.out w3 HW3.out (by omega) (InW.keeps HD3.out.below _ HI.out) (HK.out.below HD3.out.below)
  rw [HV.out] at hP
  refine hP.mono ?_
  rintro e w9 hq
  have hD9 := hq.2.2
  obtain ⟨rfl, hW9, hD9'⟩ := wrote_more hq HD3.out
  have HS9 := Lib.hid (OwnX.of (hD9.rest _ _ _ _ HO3.out (by omega) (by decide)))
  have HD9 := Lib.hid hD9'
  have HW9 := Lib.hid hW9
  clear hP hq hD9 hD9' hW9
  refine hK.out _ _ HS9.out (fun hSw => ?_)
  clear hK K
  try simp only [Act.put, List.setIfInBounds_toArray, List.set_cons_zero, List.set_cons_succ]
  refine wpAnyH_done (by kernel_rfl) ?_ _
  go_wp2_with fail
  go_end0
  exact ⟨rfl, HW9.out, HD9.out⟩

set_option maxHeartbeats 1000000 in
theorem signed_neg_dig (h : Hd) (s : Value) (a : X) (r : List X) (hE : EX a) (hk : h.k = 8) (hf : Fine (.mk h s (a :: r))) (B c : Nat) (l : List UInt8) (d : Int) (w : World) (hw : Wr B c l d w) (hBw : B ≤ w.heap.size) (hI : InW w B (.mk h s (a :: r))) (hK : Knows B w)
    (hl : l.length + 100 * X.size (.mk h s (a :: r)) ≤ 1000000000) (hs : a.txt.length + 40 ≤ 100 * X.size a) (hp : pairK a.hd.k = false) (hg2 : a.dig = true) :
    Calls Tryd.prog 49 #[.pointer (some ⟨c, 0, none⟩), X.val (.mk h s (a :: r))] w (Wrote B c l ([45] ++ partT true a.txt) d w) := by
  obtain ⟨k, n, nm, tk, tn, tz⟩ := h
  obtain ⟨g, off, cap, ao, n2, c2, rfl, hg, hlen, ea, p0, p1, p2, p3, p4, p5, p6⟩ := kid0 hI
  obtain rfl : k = 8 := hk
  have hc := hw.lt
  have hgs : g < w.heap.size := by omega
  rw [size_mk, sizes_cons] at hl
  obtain ⟨W1, hW1⟩ : ∃ W1, W1 = (w.alloc (.cells #[.int .u8 8, .int .i64 n, .string nm, .int .u8 tk, .string tn, .int .i64 tz, .slice (some ⟨g, off, none⟩) (r.length + 1) cap] 33)).alloc (.cells #[.int .u8 a.hd.k, .int .i64 a.hd.n, .string a.hd.name, .int .u8 a.hd.tk, .string a.hd.tn, .int .i64 a.hd.tz, .slice ao n2 c2] 33) := ⟨_, rfl⟩
  have hz1 : W1.heap.size = w.heap.size + 2 := by rw [hW1]; simp
  have hD : Did B c w W1 := by rw [hW1]; exact ((Did.refl B c w).alloc hBw _).alloc (by simp; omega) _
  have hw1 : Wr B c l d W1 := by rw [hW1]; exact (hw.alloc _).alloc _
  have hO : W1.heap[w.heap.size + 1]? = some (.cells #[.int .u8 a.hd.k, .int .i64 a.hd.n, .string a.hd.name, .int .u8 a.hd.tk, .string a.hd.tn, .int .i64 a.hd.tz, .slice ao n2 c2] 33 (0, 0)) := by
    rw [hW1, show w.heap.size + 1 = (w.alloc (.cells #[.int .u8 8, .int .i64 n, .string nm, .int .u8 tk, .string tn, .int .i64 tz, .slice (some ⟨g, off, none⟩) (r.length + 1) cap] 33)).heap.size by simp]
    exact (MapKept.heap_alloc _ _).1
  have hX := write1 B c l d ⟨#[45]⟩ (w.heap.size + 1 + 1) W1 (by omega) hw1 (by omega) (by show _ + 1 ≤ _; omega)
  rw [hW1] at hX
  have HX := Lib.hid hX
  have HO := Lib.hid hO
  have HD := Lib.hid hD
  have HA := Lib.hid (fun w' h1 h2 h3 h4 => part_any a hE true B c (l ++ [45]) d w' h1 h2 h3 h4 (by simp; omega) hs)
  obtain ⟨x, hx⟩ : ∃ x, wants a.hd.k = some x := by cases (fine_kids hf).2 a (by simp) with | mk _ _ _ hform _ => exact wants_of hform
  have hPP := fun w' (hw : Wr B c (l ++ [45]) d w') => pair_any B c (l ++ [45]) d a.hd.k a.hd.n a.hd.tk a.hd.tz a.hd.name a.hd.tn (.slice ao n2 c2) x w' hw hx
  rw [hp] at hPP
  have HPP := Lib.hid hPP
  have hDG := fun w' h1 h2 => bdig_any a ((fine_kids hf).2 a (by simp)) B w' h1 h2
  rw [hg2, val_of ea] at hDG
  have HDG := Lib.hid hDG
  have HI := Lib.hid ((in_kids hI).2 a (by simp))
  have HK := Lib.hid hK
  have HV := Lib.hid (val_of ea)
  have HZ := Lib.hid hW1
  show Calls Tryd.prog 49 #[.pointer (some ⟨c, 0, none⟩), .agg #[.int .u8 8, .int .i64 n, .string nm, .int .u8 tk, .string tn, .int .i64 tz, .slice (some ⟨g, off, none⟩) (r.length + 1) cap]] w _
  clear hx hPP hp hDG hg2
  clear hw hI hK hE hf ea hX hO hD hw1 hW1
  go_enter Tryd.func49, Tryd.ntmps49
  go_wp2_with fail
  refine HX.out.mono ?_; rintro e w2 ⟨rfl, hW2, hD2⟩
  rw [← HZ.out] at hD2
  have hs2 := hD2.below.size
  have hO2 := hD2.rest _ _ _ _ HO.out (by omega) (by decide)
  have hS2 := OwnX.of hO2
  have HS2 := Lib.hid hS2
  obtain ⟨q0, q1, q2, q3, q4, q5, q6⟩ := hS2
  have HO2 := Lib.hid hO2
  have HD2 := Lib.hid (HD.out.trans hD2)
  have HW2 := Lib.hid hW2
  clear hW2 hD2 hO2
  go_wp2_with fail
  refine wp_region_held_drew (S := OwnX (w.heap.size + 1) a.hd.k a.hd.n a.hd.tk a.hd.tz a.hd.name a.hd.tn (.slice ao n2 c2)) (by kernel_rfl) (HS2.out) (fun hSw => ?_)
  refine wpAnyH_take (i := 0) (oi := { dst := some 36, op := Op.move (Operand.tmp 0), type := 49, pos := "write.go:218", after := #[], guard := none }) (v := .pointer (some ⟨c, 0, none⟩)) rfl (by kernel_rfl) (by kernel_rfl) (by kernel_rfl) (fun _ _ _ h => h) (Or.inl ⟨by rfl, fun W hW => ?_⟩) hSw ?_
  · obtain ⟨s0, s1, s2, s3, s4, s5, s6⟩ := hW
    first | (go_simp; done) | rfl
  try simp only [Act.put, List.setIfInBounds_toArray, List.set_cons_zero, List.set_cons_succ]
  refine wpAnyH_take (i := 1) (oi := { dst := some 37, op := Op.load 33 (Operand.tmp 4), type := 33, pos := "write.go:218", after := #[], guard := none }) (v := .agg #[.int .u8 a.hd.k, .int .i64 a.hd.n, .string a.hd.name, .int .u8 a.hd.tk, .string a.hd.tn, .int .i64 a.hd.tz, .slice ao n2 c2]) rfl (by kernel_rfl) (by kernel_rfl) (by kernel_rfl) (fun _ _ _ h => h) (Or.inl ⟨by rfl, fun W hW => ?_⟩) hSw ?_
  · obtain ⟨s0, s1, s2, s3, s4, s5, s6⟩ := hW
    first | (go_simp; done) | rfl
  try simp only [Act.put, List.setIfInBounds_toArray, List.set_cons_zero, List.set_cons_succ]
  refine wpAnyH_take (i := 2) (oi := { dst := some 38, op := Op.move (Operand.tmp 0), type := 49, pos := "write.go:218", after := #[], guard := none }) (v := .pointer (some ⟨c, 0, none⟩)) rfl (by kernel_rfl) (by kernel_rfl) (by kernel_rfl) (fun _ _ _ h => h) (Or.inl ⟨by rfl, fun W hW => ?_⟩) hSw ?_
  · obtain ⟨s0, s1, s2, s3, s4, s5, s6⟩ := hW
    first | (go_simp; done) | rfl
  try simp only [Act.put, List.setIfInBounds_toArray, List.set_cons_zero, List.set_cons_succ]
  refine wpAnyH_take (i := 3) (oi := { dst := some 39, op := Op.load 33 (Operand.tmp 4), type := 33, pos := "write.go:218", after := #[], guard := none }) (v := .agg #[.int .u8 a.hd.k, .int .i64 a.hd.n, .string a.hd.name, .int .u8 a.hd.tk, .string a.hd.tn, .int .i64 a.hd.tz, .slice ao n2 c2]) rfl (by kernel_rfl) (by kernel_rfl) (by kernel_rfl) (fun _ _ _ h => h) (Or.inl ⟨by rfl, fun W hW => ?_⟩) hSw ?_
  · obtain ⟨s0, s1, s2, s3, s4, s5, s6⟩ := hW
    first | (go_simp; done) | rfl
  try simp only [Act.put, List.setIfInBounds_toArray, List.set_cons_zero, List.set_cons_succ]
  refine wpAnyH_ready (rs := [4]) (by kernel_rfl) (by simp) ?_
  refine AllReadyH.cons (o := { dst := some 40, op := Op.call { callee := Callee.value (Operand.func 69), args := #[Operand.tmp 38, Operand.tmp 39], argTypes := #[49, 33] }, type := 4, pos := "write.go:218", after := #[{ on := 2, ground := Ground.data }, { on := 3, ground := Ground.data }], guard := none }) rfl (fun K hK => ?_) AllReadyH.nil
  rw [if_pos (by rfl)]
  clear hSw
  go_simp
  refine (HPP.out _ (HW2.out.drew)).mono ?_
  rintro e w3 ⟨rfl, hb3⟩
  have hs3 := hb3.size
  simp at hs3
  have hO3 := (hb3.block _ (by simp; omega)).trans HO2.out
  have HS3 := Lib.hid (OwnX.of hO3)
  have HW3 := Lib.hid (HW2.out.drew.below hb3)
  have HD3 := Lib.hid (HD2.out.grew (by omega) (Below.drew (Below.refl _ _)) |>.grew (by simp; omega) hb3)
  have HO3 := Lib.hid hO3
  clear hb3 hO3
  refine hK.out _ _ HS3.out (fun hSw => ?_)
  clear hK K
  try simp only [Act.put, List.setIfInBounds_toArray, List.set_cons_zero, List.set_cons_succ]
  refine wpAnyH_take (i := 5) (oi := { dst := some 41, op := Op.move (Operand.tmp 40), type := 4, pos := "write.go:218", after := #[{ on := 4, ground := Ground.data }, { on := 4, ground := Ground.chain }], guard := none }) (v := .bool false) rfl (by kernel_rfl) (by kernel_rfl) (by kernel_rfl) (fun _ _ _ h => h) (Or.inl ⟨by rfl, fun W hW => ?_⟩) hSw ?_
  · obtain ⟨s0, s1, s2, s3, s4, s5, s6⟩ := hW
    first | (go_simp; done) | rfl
  try simp only [Act.put, List.setIfInBounds_toArray, List.set_cons_zero, List.set_cons_succ]
  refine wpAnyH_take (i := 6) (oi := { dst := some 42, op := Op.load 33 (Operand.tmp 4), type := 33, pos := "write.go:218", after := #[{ on := 5, ground := Ground.guard }], guard := some (5, false) }) (v := .agg #[.int .u8 a.hd.k, .int .i64 a.hd.n, .string a.hd.name, .int .u8 a.hd.tk, .string a.hd.tn, .int .i64 a.hd.tz, .slice ao n2 c2]) rfl (by kernel_rfl) (by kernel_rfl) (by kernel_rfl) (fun _ _ _ h => h) (Or.inl ⟨by rfl, fun W hW => ?_⟩) hSw ?_
  · obtain ⟨s0, s1, s2, s3, s4, s5, s6⟩ := hW
    first | (go_simp; done) | rfl
  try simp only [Act.put, List.setIfInBounds_toArray, List.set_cons_zero, List.set_cons_succ]
  refine wpAnyH_ready (rs := [7]) (by kernel_rfl) (by simp) ?_
  refine AllReadyH.cons (o := { dst := some 43, op := Op.call { callee := Callee.value (Operand.func 71), args := #[Operand.tmp 42], argTypes := #[33] }, type := 4, pos := "write.go:218", after := #[{ on := 6, ground := Ground.data }, { on := 5, ground := Ground.chain }, { on := 5, ground := Ground.guard }], guard := some (5, false) }) rfl (fun K hK => ?_) AllReadyH.nil
  rw [if_pos (by rfl)]
  clear hSw
  go_simp
  refine (HDG.out w3 (by omega) (InW.keeps HD3.out.below _ HI.out)).mono ?_
  rintro e w4 ⟨rfl, hb4⟩
  have hs4 := hb4.size
  have hO4 := (hb4.block _ (by omega)).trans HO3.out
  have HS4 := Lib.hid (OwnX.of hO4)
  have HW4 := Lib.hid (HW3.out.below hb4)
  have HD4 := Lib.hid (HD3.out.grew (by omega) hb4)
  have HO4 := Lib.hid hO4
  clear hb4 hO4
  refine hK.out _ _ HS4.out (fun hSw => ?_)
  clear hK K
  try simp only [Act.put, List.setIfInBounds_toArray, List.set_cons_zero, List.set_cons_succ]
  refine wpAnyH_take (i := 8) (oi := { dst := some 44, op := Op.pick (Operand.tmp 41) (Operand.const (Value.bool true)) (Operand.tmp 43), type := 4, pos := "write.go:218", after := #[{ on := 5, ground := Ground.data }, { on := 7, ground := Ground.data }], guard := none }) (v := .bool true) rfl (by kernel_rfl) (by kernel_rfl) (by kernel_rfl) (fun _ _ _ h => h) (Or.inl ⟨by rfl, fun W hW => ?_⟩) hSw ?_
  · obtain ⟨s0, s1, s2, s3, s4, s5, s6⟩ := hW
    first | (go_simp; done) | rfl
  try simp only [Act.put, List.setIfInBounds_toArray, List.set_cons_zero, List.set_cons_succ]
  refine wpAnyH_ready (rs := [9]) (by kernel_rfl) (by simp) ?_
  refine AllReadyH.cons (o := { dst := some 45, op := Op.call { callee := Callee.value (Operand.func 68), args := #[Operand.tmp 36, Operand.tmp 37, Operand.tmp 44], argTypes := #[49, 33, 4] }, type := 0, pos := "write.go:218", after := #[{ on := 0, ground := Ground.data }, { on := 1, ground := Ground.data }, { on := 8, ground := Ground.data }, { on := 7, ground := Ground.chain }], guard := none }) rfl (fun K hK => ?_) AllReadyH.nil
  rw [if_pos (by rfl)]
  clear hSw
  go_simp
  have hP := HA.out w4 HW4.out (by omega) (InW.keeps HD4.out.below _ HI.out) (HK.out.below HD4.out.below)
  rw [HV.out] at hP
  refine hP.mono ?_
  rintro e w9 hq
  have hD9 := hq.2.2
  obtain ⟨rfl, hW9, hD9'⟩ := wrote_more hq HD4.out
  have HS9 := Lib.hid (OwnX.of (hD9.rest _ _ _ _ HO4.out (by omega) (by decide)))
  have HD9 := Lib.hid hD9'
  have HW9 := Lib.hid hW9
  clear hP hq hD9 hD9' hW9
  refine hK.out _ _ HS9.out (fun hSw => ?_)
  clear hK K
  try simp only [Act.put, List.setIfInBounds_toArray, List.set_cons_zero, List.set_cons_succ]
  refine wpAnyH_done (by kernel_rfl) ?_ _
  go_wp2_with fail
  go_end0
  exact ⟨rfl, HW9.out, HD9.out⟩

set_option maxHeartbeats 1000000 in
theorem signed_neg_else (h : Hd) (s : Value) (a : X) (r : List X) (hE : EX a) (hk : h.k = 8) (hf : Fine (.mk h s (a :: r))) (B c : Nat) (l : List UInt8) (d : Int) (w : World) (hw : Wr B c l d w) (hBw : B ≤ w.heap.size) (hI : InW w B (.mk h s (a :: r))) (hK : Knows B w)
    (hl : l.length + 100 * X.size (.mk h s (a :: r)) ≤ 1000000000) (hs : a.txt.length + 40 ≤ 100 * X.size a) (hp : pairK a.hd.k = false) (hg2 : a.dig = false) :
    Calls Tryd.prog 49 #[.pointer (some ⟨c, 0, none⟩), X.val (.mk h s (a :: r))] w (Wrote B c l ([45] ++ partT false a.txt) d w) := by
  obtain ⟨k, n, nm, tk, tn, tz⟩ := h
  obtain ⟨g, off, cap, ao, n2, c2, rfl, hg, hlen, ea, p0, p1, p2, p3, p4, p5, p6⟩ := kid0 hI
  obtain rfl : k = 8 := hk
  have hc := hw.lt
  have hgs : g < w.heap.size := by omega
  rw [size_mk, sizes_cons] at hl
  obtain ⟨W1, hW1⟩ : ∃ W1, W1 = (w.alloc (.cells #[.int .u8 8, .int .i64 n, .string nm, .int .u8 tk, .string tn, .int .i64 tz, .slice (some ⟨g, off, none⟩) (r.length + 1) cap] 33)).alloc (.cells #[.int .u8 a.hd.k, .int .i64 a.hd.n, .string a.hd.name, .int .u8 a.hd.tk, .string a.hd.tn, .int .i64 a.hd.tz, .slice ao n2 c2] 33) := ⟨_, rfl⟩
  have hz1 : W1.heap.size = w.heap.size + 2 := by rw [hW1]; simp
  have hD : Did B c w W1 := by rw [hW1]; exact ((Did.refl B c w).alloc hBw _).alloc (by simp; omega) _
  have hw1 : Wr B c l d W1 := by rw [hW1]; exact (hw.alloc _).alloc _
  have hO : W1.heap[w.heap.size + 1]? = some (.cells #[.int .u8 a.hd.k, .int .i64 a.hd.n, .string a.hd.name, .int .u8 a.hd.tk, .string a.hd.tn, .int .i64 a.hd.tz, .slice ao n2 c2] 33 (0, 0)) := by
    rw [hW1, show w.heap.size + 1 = (w.alloc (.cells #[.int .u8 8, .int .i64 n, .string nm, .int .u8 tk, .string tn, .int .i64 tz, .slice (some ⟨g, off, none⟩) (r.length + 1) cap] 33)).heap.size by simp]
    exact (MapKept.heap_alloc _ _).1
  have hX := write1 B c l d ⟨#[45]⟩ (w.heap.size + 1 + 1) W1 (by omega) hw1 (by omega) (by show _ + 1 ≤ _; omega)
  rw [hW1] at hX
  have HX := Lib.hid hX
  have HO := Lib.hid hO
  have HD := Lib.hid hD
  have HA := Lib.hid (fun w' h1 h2 h3 h4 => part_any a hE false B c (l ++ [45]) d w' h1 h2 h3 h4 (by simp; omega) hs)
  obtain ⟨x, hx⟩ : ∃ x, wants a.hd.k = some x := by cases (fine_kids hf).2 a (by simp) with | mk _ _ _ hform _ => exact wants_of hform
  have hPP := fun w' (hw : Wr B c (l ++ [45]) d w') => pair_any B c (l ++ [45]) d a.hd.k a.hd.n a.hd.tk a.hd.tz a.hd.name a.hd.tn (.slice ao n2 c2) x w' hw hx
  rw [hp] at hPP
  have HPP := Lib.hid hPP
  have hDG := fun w' h1 h2 => bdig_any a ((fine_kids hf).2 a (by simp)) B w' h1 h2
  rw [hg2, val_of ea] at hDG
  have HDG := Lib.hid hDG
  have HI := Lib.hid ((in_kids hI).2 a (by simp))
  have HK := Lib.hid hK
  have HV := Lib.hid (val_of ea)
  have HZ := Lib.hid hW1
  show Calls Tryd.prog 49 #[.pointer (some ⟨c, 0, none⟩), .agg #[.int .u8 8, .int .i64 n, .string nm, .int .u8 tk, .string tn, .int .i64 tz, .slice (some ⟨g, off, none⟩) (r.length + 1) cap]] w _
  clear hx hPP hp hDG hg2
  clear hw hI hK hE hf ea hX hO hD hw1 hW1
  go_enter Tryd.func49, Tryd.ntmps49
  go_wp2_with fail
  refine HX.out.mono ?_; rintro e w2 ⟨rfl, hW2, hD2⟩
  rw [← HZ.out] at hD2
  have hs2 := hD2.below.size
  have hO2 := hD2.rest _ _ _ _ HO.out (by omega) (by decide)
  have hS2 := OwnX.of hO2
  have HS2 := Lib.hid hS2
  obtain ⟨q0, q1, q2, q3, q4, q5, q6⟩ := hS2
  have HO2 := Lib.hid hO2
  have HD2 := Lib.hid (HD.out.trans hD2)
  have HW2 := Lib.hid hW2
  clear hW2 hD2 hO2
  go_wp2_with fail
  refine wp_region_held_drew (S := OwnX (w.heap.size + 1) a.hd.k a.hd.n a.hd.tk a.hd.tz a.hd.name a.hd.tn (.slice ao n2 c2)) (by kernel_rfl) (HS2.out) (fun hSw => ?_)
  refine wpAnyH_take (i := 0) (oi := { dst := some 36, op := Op.move (Operand.tmp 0), type := 49, pos := "write.go:218", after := #[], guard := none }) (v := .pointer (some ⟨c, 0, none⟩)) rfl (by kernel_rfl) (by kernel_rfl) (by kernel_rfl) (fun _ _ _ h => h) (Or.inl ⟨by rfl, fun W hW => ?_⟩) hSw ?_
  · obtain ⟨s0, s1, s2, s3, s4, s5, s6⟩ := hW
    first | (go_simp; done) | rfl
  try simp only [Act.put, List.setIfInBounds_toArray, List.set_cons_zero, List.set_cons_succ]
  refine wpAnyH_take (i := 1) (oi := { dst := some 37, op := Op.load 33 (Operand.tmp 4), type := 33, pos := "write.go:218", after := #[], guard := none }) (v := .agg #[.int .u8 a.hd.k, .int .i64 a.hd.n, .string a.hd.name, .int .u8 a.hd.tk, .string a.hd.tn, .int .i64 a.hd.tz, .slice ao n2 c2]) rfl (by kernel_rfl) (by kernel_rfl) (by kernel_rfl) (fun _ _ _ h => h) (Or.inl ⟨by rfl, fun W hW => ?_⟩) hSw ?_
  · obtain ⟨s0, s1, s2, s3, s4, s5, s6⟩ := hW
    first | (go_simp; done) | rfl
  try simp only [Act.put, List.setIfInBounds_toArray, List.set_cons_zero, List.set_cons_succ]
  refine wpAnyH_take (i := 2) (oi := { dst := some 38, op := Op.move (Operand.tmp 0), type := 49, pos := "write.go:218", after := #[], guard := none }) (v := .pointer (some ⟨c, 0, none⟩)) rfl (by kernel_rfl) (by kernel_rfl) (by kernel_rfl) (fun _ _ _ h => h) (Or.inl ⟨by rfl, fun W hW => ?_⟩) hSw ?_
  · obtain ⟨s0, s1, s2, s3, s4, s5, s6⟩ := hW
    first | (go_simp; done) | rfl
  try simp only [Act.put, List.setIfInBounds_toArray, List.set_cons_zero, List.set_cons_succ]
  refine wpAnyH_take (i := 3) (oi := { dst := some 39, op := Op.load 33 (Operand.tmp 4), type := 33, pos := "write.go:218", after := #[], guard := none }) (v := .agg #[.int .u8 a.hd.k, .int .i64 a.hd.n, .string a.hd.name, .int .u8 a.hd.tk, .string a.hd.tn, .int .i64 a.hd.tz, .slice ao n2 c2]) rfl (by kernel_rfl) (by kernel_rfl) (by kernel_rfl) (fun _ _ _ h => h) (Or.inl ⟨by rfl, fun W hW => ?_⟩) hSw ?_
  · obtain ⟨s0, s1, s2, s3, s4, s5, s6⟩ := hW
    first | (go_simp; done) | rfl
  try simp only [Act.put, List.setIfInBounds_toArray, List.set_cons_zero, List.set_cons_succ]
  refine wpAnyH_ready (rs := [4]) (by kernel_rfl) (by simp) ?_
  refine AllReadyH.cons (o := { dst := some 40, op := Op.call { callee := Callee.value (Operand.func 69), args := #[Operand.tmp 38, Operand.tmp 39], argTypes := #[49, 33] }, type := 4, pos := "write.go:218", after := #[{ on := 2, ground := Ground.data }, { on := 3, ground := Ground.data }], guard := none }) rfl (fun K hK => ?_) AllReadyH.nil
  rw [if_pos (by rfl)]
  clear hSw
  go_simp
  refine (HPP.out _ (HW2.out.drew)).mono ?_
  rintro e w3 ⟨rfl, hb3⟩
  have hs3 := hb3.size
  simp at hs3
  have hO3 := (hb3.block _ (by simp; omega)).trans HO2.out
  have HS3 := Lib.hid (OwnX.of hO3)
  have HW3 := Lib.hid (HW2.out.drew.below hb3)
  have HD3 := Lib.hid (HD2.out.grew (by omega) (Below.drew (Below.refl _ _)) |>.grew (by simp; omega) hb3)
  have HO3 := Lib.hid hO3
  clear hb3 hO3
  refine hK.out _ _ HS3.out (fun hSw => ?_)
  clear hK K
  try simp only [Act.put, List.setIfInBounds_toArray, List.set_cons_zero, List.set_cons_succ]
  refine wpAnyH_take (i := 5) (oi := { dst := some 41, op := Op.move (Operand.tmp 40), type := 4, pos := "write.go:218", after := #[{ on := 4, ground := Ground.data }, { on := 4, ground := Ground.chain }], guard := none }) (v := .bool false) rfl (by kernel_rfl) (by kernel_rfl) (by kernel_rfl) (fun _ _ _ h => h) (Or.inl ⟨by rfl, fun W hW => ?_⟩) hSw ?_
  · obtain ⟨s0, s1, s2, s3, s4, s5, s6⟩ := hW
    first | (go_simp; done) | rfl
  try simp only [Act.put, List.setIfInBounds_toArray, List.set_cons_zero, List.set_cons_succ]
  refine wpAnyH_take (i := 6) (oi := { dst := some 42, op := Op.load 33 (Operand.tmp 4), type := 33, pos := "write.go:218", after := #[{ on := 5, ground := Ground.guard }], guard := some (5, false) }) (v := .agg #[.int .u8 a.hd.k, .int .i64 a.hd.n, .string a.hd.name, .int .u8 a.hd.tk, .string a.hd.tn, .int .i64 a.hd.tz, .slice ao n2 c2]) rfl (by kernel_rfl) (by kernel_rfl) (by kernel_rfl) (fun _ _ _ h => h) (Or.inl ⟨by rfl, fun W hW => ?_⟩) hSw ?_
  · obtain ⟨s0, s1, s2, s3, s4, s5, s6⟩ := hW
    first | (go_simp; done) | rfl
  try simp only [Act.put, List.setIfInBounds_toArray, List.set_cons_zero, List.set_cons_succ]
  refine wpAnyH_ready (rs := [7]) (by kernel_rfl) (by simp) ?_
  refine AllReadyH.cons (o := { dst := some 43, op := Op.call { callee := Callee.value (Operand.func 71), args := #[Operand.tmp 42], argTypes := #[33] }, type := 4, pos := "write.go:218", after := #[{ on := 6, ground := Ground.data }, { on := 5, ground := Ground.chain }, { on := 5, ground := Ground.guard }], guard := some (5, false) }) rfl (fun K hK => ?_) AllReadyH.nil
  rw [if_pos (by rfl)]
  clear hSw
  go_simp
  refine (HDG.out w3 (by omega) (InW.keeps HD3.out.below _ HI.out)).mono ?_
  rintro e w4 ⟨rfl, hb4⟩
  have hs4 := hb4.size
  have hO4 := (hb4.block _ (by omega)).trans HO3.out
  have HS4 := Lib.hid (OwnX.of hO4)
  have HW4 := Lib.hid (HW3.out.below hb4)
  have HD4 := Lib.hid (HD3.out.grew (by omega) hb4)
  have HO4 := Lib.hid hO4
  clear hb4 hO4
  refine hK.out _ _ HS4.out (fun hSw => ?_)
  clear hK K
  try simp only [Act.put, List.setIfInBounds_toArray, List.set_cons_zero, List.set_cons_succ]
  refine wpAnyH_take (i := 8) (oi := { dst := some 44, op := Op.pick (Operand.tmp 41) (Operand.const (Value.bool true)) (Operand.tmp 43), type := 4, pos := "write.go:218", after := #[{ on := 5, ground := Ground.data }, { on := 7, ground := Ground.data }], guard := none }) (v := .bool false) rfl (by kernel_rfl) (by kernel_rfl) (by kernel_rfl) (fun _ _ _ h => h) (Or.inl ⟨by rfl, fun W hW => ?_⟩) hSw ?_
  · obtain ⟨s0, s1, s2, s3, s4, s5, s6⟩ := hW
    first | (go_simp; done) | rfl
  try simp only [Act.put, List.setIfInBounds_toArray, List.set_cons_zero, List.set_cons_succ]
  refine wpAnyH_ready (rs := [9]) (by kernel_rfl) (by simp) ?_
  refine AllReadyH.cons (o := { dst := some 45, op := Op.call { callee := Callee.value (Operand.func 68), args := #[Operand.tmp 36, Operand.tmp 37, Operand.tmp 44], argTypes := #[49, 33, 4] }, type := 0, pos := "write.go:218", after := #[{ on := 0, ground := Ground.data }, { on := 1, ground := Ground.data }, { on := 8, ground := Ground.data }, { on := 7, ground := Ground.chain }], guard := none }) rfl (fun K hK => ?_) AllReadyH.nil
  rw [if_pos (by rfl)]
  clear hSw
  go_simp
  have hP := HA.out w4 HW4.out (by omega) (InW.keeps HD4.out.below _ HI.out) (HK.out.below HD4.out.below)
  rw [HV.out] at hP
  refine hP.mono ?_
  rintro e w9 hq
  have hD9 := hq.2.2
  obtain ⟨rfl, hW9, hD9'⟩ := wrote_more hq HD4.out
  have HS9 := Lib.hid (OwnX.of (hD9.rest _ _ _ _ HO4.out (by omega) (by decide)))
  have HD9 := Lib.hid hD9'
  have HW9 := Lib.hid hW9
  clear hP hq hD9 hD9' hW9
  refine hK.out _ _ HS9.out (fun hSw => ?_)
  clear hK K
  try simp only [Act.put, List.setIfInBounds_toArray, List.set_cons_zero, List.set_cons_succ]
  refine wpAnyH_done (by kernel_rfl) ?_ _
  go_wp2_with fail
  go_end0
  exact ⟨rfl, HW9.out, HD9.out⟩

theorem signed_neg (h : Hd) (s : Value) (a : X) (r : List X) (hE : EX a) (hk : h.k = 8) (hf : Fine (.mk h s (a :: r))) (B c : Nat) (l : List UInt8) (d : Int) (w : World) (hw : Wr B c l d w) (hBw : B ≤ w.heap.size) (hI : InW w B (.mk h s (a :: r))) (hK : Knows B w)
    (hl : l.length + 100 * X.size (.mk h s (a :: r)) ≤ 1000000000) (hs : a.txt.length + 40 ≤ 100 * X.size a) :
    Calls Tryd.prog 49 #[.pointer (some ⟨c, 0, none⟩), X.val (.mk h s (a :: r))] w (Wrote B c l ([45] ++ partT (pairK a.hd.k || digs (a :: r)) a.txt) d w) := by
  rw [digs_cons]
  cases hp : pairK a.hd.k with
  | true => exact signed_neg_pair h s a r hE hk hf B c l d w hw hBw hI hK hl hs hp
  | false =>
    cases hg : a.dig with
    | true => exact signed_neg_dig h s a r hE hk hf B c l d w hw hBw hI hK hl hs hp hg
    | false => exact signed_neg_else h s a r hE hk hf B c l d w hw hBw hI hK hl hs hp hg
end Go.Proofs.YtflbplljlkpeiaaDoor
