/- What stands ahead of a dot or an index, and whether a text begins with a digit: what the show layer's functions do. -/
import Derived.Test.YtflbplljlkpeiaaDoorRows
import Derived.Test.YtflbplljlkpeiaaDoorShowPair
import Derived.Deep.QuietTactic
import Derived.Deep.Draws
import Derived.BigQuiet
import Derived.RegionTactic
import Derived.Deep.DrawnRows
import Derived.Deep.RegionHeld3
import Derived.LoopTactic
import Derived.WalkKit
import Derived.WalkSpells
import Derived.WalkLawsBesides
import Derived.Lib.Hide
namespace Go.Proofs.YtflbplljlkpeiaaDoor
open Go.RowKit
attribute [local go_sem ↓] Go.wp_at_zero Go.wp_at_succ

/-- A variable that holds an expression. -/
def OwnX (b : Nat) (k n tk tz : Int) (nm tn : ByteArray) (s : Value) (W : World) : Prop :=
  W.cell? ⟨b, 0, none⟩ = some (.int .u8 k) ∧ W.cell? ⟨b, 1, none⟩ = some (.int .i64 n) ∧ W.cell? ⟨b, 2, none⟩ = some (.string nm) ∧ W.cell? ⟨b, 3, none⟩ = some (.int .u8 tk) ∧ W.cell? ⟨b, 4, none⟩ = some (.string tn) ∧ W.cell? ⟨b, 5, none⟩ = some (.int .i64 tz) ∧ W.cell? ⟨b, 6, none⟩ = some s
theorem OwnX.of {b : Nat} {k n tk tz : Int} {nm tn : ByteArray} {s : Value} {W : World} {T : TypeId} {fr : Nat × Nat} (h : W.heap[b]? = some (.cells #[.int .u8 k, .int .i64 n, .string nm, .int .u8 tk, .string tn, .int .i64 tz, s] T fr)) : OwnX b k n tk tz nm tn s W := own7 h

set_option maxHeartbeats 1000000 in
theorem head_pair (a : X) (hE : EX a) (hf : Fine a) (B c : Nat) (l : List UInt8) (d : Int) (w : World) (h : Wr B c l d w) (hBw : B ≤ w.heap.size) (hI : InW w B a) (hK : Knows B w) (hl : l.length + 100 * X.size a ≤ 999999990) (hs : a.txt.length + 40 ≤ 100 * X.size a) (hp : pairK a.hd.k = true) :
    Calls Tryd.prog 47 #[.pointer (some ⟨c, 0, none⟩), a.val] w (Wrote B c l (partT true a.txt) d w) := by
  obtain ⟨x, hx⟩ : ∃ x, wants a.hd.k = some x := by cases hf with | mk _ _ _ hform _ => exact wants_of hform
  clear hf
  have HA := Lib.hid (fun w' h1 h2 h3 h4 => part_any a hE true B c l d w' h1 h2 h3 h4 hl hs)
  obtain ⟨⟨k, n, nm, tk, tn, tz⟩, s, xs⟩ := a
  have hD := (Did.refl B c w).alloc hBw (.cells #[.int .u8 k, .int .i64 n, .string nm, .int .u8 tk, .string tn, .int .i64 tz, s] 33)
  have h1 := h.alloc (.cells #[.int .u8 k, .int .i64 n, .string nm, .int .u8 tk, .string tn, .int .i64 tz, s] 33)
  have hP := fun w' (hw : Wr B c l d w') => pair_any B c l d k n tk tz nm tn s x w' hw hx
  rw [show pairK k = true from hp] at hP
  have HP := Lib.hid hP
  have hc := h.lt
  have HI := Lib.hid hI
  have HK := Lib.hid hK
  have HD := Lib.hid hD
  have H1 := Lib.hid h1
  skip
  show Calls Tryd.prog 47 #[.pointer (some ⟨c, 0, none⟩), .agg #[.int .u8 k, .int .i64 n, .string nm, .int .u8 tk, .string tn, .int .i64 tz, s]] w _
  clear hE hx h hI hK hD h1 hl hs hp hP
  go_enter Tryd.func47, Tryd.ntmps47
  go_wp2_with fail
  have HO := Lib.hid (MapKept.heap_alloc w (.cells #[.int .u8 k, .int .i64 n, .string nm, .int .u8 tk, .string tn, .int .i64 tz, s] 33)).1
  refine wp_region_held_drew (S := OwnX w.heap.size k n tk tz nm tn s) (by kernel_rfl) (OwnX.of HO.out) (fun hSw => ?_)
  refine wpAnyH_take (i := 0) (oi := { dst := some 4, op := Op.move (Operand.tmp 0), type := 49, pos := "write.go:235", after := #[], guard := none }) (v := .pointer (some ⟨c, 0, none⟩)) rfl (by kernel_rfl) (by kernel_rfl) (by kernel_rfl) (fun _ _ _ h => h) (Or.inl ⟨by rfl, fun W hW => ?_⟩) hSw ?_
  · obtain ⟨s0, s1, s2, s3, s4, s5, s6⟩ := hW
    first | (go_simp; done) | rfl
  try simp only [Act.put, List.setIfInBounds_toArray, List.set_cons_zero, List.set_cons_succ]
  refine wpAnyH_take (i := 1) (oi := { dst := some 5, op := Op.load 33 (Operand.tmp 3), type := 33, pos := "write.go:235", after := #[], guard := none }) (v := .agg #[.int .u8 k, .int .i64 n, .string nm, .int .u8 tk, .string tn, .int .i64 tz, s]) rfl (by kernel_rfl) (by kernel_rfl) (by kernel_rfl) (fun _ _ _ h => h) (Or.inl ⟨by rfl, fun W hW => ?_⟩) hSw ?_
  · obtain ⟨s0, s1, s2, s3, s4, s5, s6⟩ := hW
    first | (go_simp; done) | rfl
  try simp only [Act.put, List.setIfInBounds_toArray, List.set_cons_zero, List.set_cons_succ]
  refine wpAnyH_take (i := 2) (oi := { dst := some 6, op := Op.move (Operand.tmp 0), type := 49, pos := "write.go:235", after := #[], guard := none }) (v := .pointer (some ⟨c, 0, none⟩)) rfl (by kernel_rfl) (by kernel_rfl) (by kernel_rfl) (fun _ _ _ h => h) (Or.inl ⟨by rfl, fun W hW => ?_⟩) hSw ?_
  · obtain ⟨s0, s1, s2, s3, s4, s5, s6⟩ := hW
    first | (go_simp; done) | rfl
  try simp only [Act.put, List.setIfInBounds_toArray, List.set_cons_zero, List.set_cons_succ]
  refine wpAnyH_take (i := 3) (oi := { dst := some 7, op := Op.load 33 (Operand.tmp 3), type := 33, pos := "write.go:235", after := #[], guard := none }) (v := .agg #[.int .u8 k, .int .i64 n, .string nm, .int .u8 tk, .string tn, .int .i64 tz, s]) rfl (by kernel_rfl) (by kernel_rfl) (by kernel_rfl) (fun _ _ _ h => h) (Or.inl ⟨by rfl, fun W hW => ?_⟩) hSw ?_
  · obtain ⟨s0, s1, s2, s3, s4, s5, s6⟩ := hW
    first | (go_simp; done) | rfl
  try simp only [Act.put, List.setIfInBounds_toArray, List.set_cons_zero, List.set_cons_succ]
  refine wpAnyH_ready (rs := [4]) (by kernel_rfl) (by simp) ?_
  refine AllReadyH.cons (o := { dst := some 8, op := Op.call { callee := Callee.value (Operand.func 69), args := #[Operand.tmp 6, Operand.tmp 7], argTypes := #[49, 33] }, type := 4, pos := "write.go:235", after := #[{ on := 2, ground := Ground.data }, { on := 3, ground := Ground.data }], guard := none }) rfl (fun K hK => ?_) AllReadyH.nil
  rw [if_pos (by rfl)]
  clear hSw
  go_simp
  refine (HP.out _ (H1.out.drew)).mono ?_
  rintro e w2 ⟨rfl, hb2⟩
  have hO2 := (hb2.block _ (by simp)).trans HO.out
  have HS2 := Lib.hid (OwnX.of hO2)
  have hs2 := hb2.size
  simp at hs2
  have HW2 := Lib.hid (H1.out.drew.below hb2)
  have HD2 := Lib.hid (HD.out.grew (by simp; omega) (Below.drew (Below.refl _ _)) |>.grew (by simp; omega) hb2)
  have HO2 := Lib.hid hO2
  clear hb2 hO2
  refine hK.out _ _ HS2.out (fun hSw => ?_)
  clear hK K
  try simp only [Act.put, List.setIfInBounds_toArray, List.set_cons_zero, List.set_cons_succ]
  refine wpAnyH_take (i := 5) (oi := { dst := some 9, op := Op.move (Operand.tmp 8), type := 4, pos := "write.go:235", after := #[{ on := 4, ground := Ground.data }, { on := 4, ground := Ground.chain }], guard := none }) (v := .bool true) rfl (by kernel_rfl) (by kernel_rfl) (by kernel_rfl) (fun _ _ _ h => h) (Or.inl ⟨by rfl, fun W hW => ?_⟩) hSw ?_
  · obtain ⟨s0, s1, s2, s3, s4, s5, s6⟩ := hW
    first | (go_simp; done) | rfl
  try simp only [Act.put, List.setIfInBounds_toArray, List.set_cons_zero, List.set_cons_succ]
  refine wpAnyH_take (i := 6) (oi := { dst := some 10, op := Op.fieldAddr 33 (Operand.tmp 3) 0, type := 0, pos := "write.go:235", after := #[{ on := 5, ground := Ground.guard }], guard := some (5, false) }) (v := undef) rfl (by kernel_rfl) (by kernel_rfl) (by kernel_rfl) (fun _ _ _ h => h) (Or.inr ⟨by rfl, rfl⟩) hSw ?_
  try simp only [Act.put, List.setIfInBounds_toArray, List.set_cons_zero, List.set_cons_succ]
  refine wpAnyH_take (i := 7) (oi := { dst := some 11, op := Op.load 30 (Operand.tmp 10), type := 30, pos := "write.go:235", after := #[{ on := 6, ground := Ground.data }, { on := 5, ground := Ground.guard }], guard := some (5, false) }) (v := undef) rfl (by kernel_rfl) (by kernel_rfl) (by kernel_rfl) (fun _ _ _ h => h) (Or.inr ⟨by rfl, rfl⟩) hSw ?_
  try simp only [Act.put, List.setIfInBounds_toArray, List.set_cons_zero, List.set_cons_succ]
  refine wpAnyH_take (i := 8) (oi := { dst := some 12, op := Op.binOp BinOp.eql 30 (Operand.tmp 11) (Operand.const (Value.int IntKind.u8 8)) 30, type := 4, pos := "write.go:235", after := #[{ on := 7, ground := Ground.data }, { on := 5, ground := Ground.guard }], guard := some (5, false) }) (v := undef) rfl (by kernel_rfl) (by kernel_rfl) (by kernel_rfl) (fun _ _ _ h => h) (Or.inr ⟨by rfl, rfl⟩) hSw ?_
  try simp only [Act.put, List.setIfInBounds_toArray, List.set_cons_zero, List.set_cons_succ]
  refine wpAnyH_take (i := 9) (oi := { dst := some 13, op := Op.pick (Operand.tmp 9) (Operand.const (Value.bool true)) (Operand.tmp 12), type := 4, pos := "write.go:235", after := #[{ on := 5, ground := Ground.data }, { on := 8, ground := Ground.data }], guard := none }) (v := .bool true) rfl (by kernel_rfl) (by kernel_rfl) (by kernel_rfl) (fun _ _ _ h => h) (Or.inl ⟨by rfl, fun W hW => ?_⟩) hSw ?_
  · obtain ⟨s0, s1, s2, s3, s4, s5, s6⟩ := hW
    first | (go_simp; done) | rfl
  try simp only [Act.put, List.setIfInBounds_toArray, List.set_cons_zero, List.set_cons_succ]
  refine wpAnyH_take (i := 10) (oi := { dst := some 14, op := Op.move (Operand.tmp 13), type := 4, pos := "write.go:235", after := #[{ on := 9, ground := Ground.data }, { on := 5, ground := Ground.chain }], guard := none }) (v := .bool true) rfl (by kernel_rfl) (by kernel_rfl) (by kernel_rfl) (fun _ _ _ h => h) (Or.inl ⟨by rfl, fun W hW => ?_⟩) hSw ?_
  · obtain ⟨s0, s1, s2, s3, s4, s5, s6⟩ := hW
    first | (go_simp; done) | rfl
  try simp only [Act.put, List.setIfInBounds_toArray, List.set_cons_zero, List.set_cons_succ]
  refine wpAnyH_take (i := 11) (oi := { dst := some 15, op := Op.fieldAddr 33 (Operand.tmp 3) 0, type := 0, pos := "write.go:235", after := #[{ on := 10, ground := Ground.guard }], guard := some (10, false) }) (v := undef) rfl (by kernel_rfl) (by kernel_rfl) (by kernel_rfl) (fun _ _ _ h => h) (Or.inr ⟨by rfl, rfl⟩) hSw ?_
  try simp only [Act.put, List.setIfInBounds_toArray, List.set_cons_zero, List.set_cons_succ]
  refine wpAnyH_take (i := 12) (oi := { dst := some 16, op := Op.load 30 (Operand.tmp 15), type := 30, pos := "write.go:235", after := #[{ on := 11, ground := Ground.data }, { on := 10, ground := Ground.guard }], guard := some (10, false) }) (v := undef) rfl (by kernel_rfl) (by kernel_rfl) (by kernel_rfl) (fun _ _ _ h => h) (Or.inr ⟨by rfl, rfl⟩) hSw ?_
  try simp only [Act.put, List.setIfInBounds_toArray, List.set_cons_zero, List.set_cons_succ]
  refine wpAnyH_take (i := 13) (oi := { dst := some 17, op := Op.binOp BinOp.eql 30 (Operand.tmp 16) (Operand.const (Value.int IntKind.u8 9)) 30, type := 4, pos := "write.go:235", after := #[{ on := 12, ground := Ground.data }, { on := 10, ground := Ground.guard }], guard := some (10, false) }) (v := undef) rfl (by kernel_rfl) (by kernel_rfl) (by kernel_rfl) (fun _ _ _ h => h) (Or.inr ⟨by rfl, rfl⟩) hSw ?_
  try simp only [Act.put, List.setIfInBounds_toArray, List.set_cons_zero, List.set_cons_succ]
  refine wpAnyH_take (i := 14) (oi := { dst := some 18, op := Op.pick (Operand.tmp 14) (Operand.const (Value.bool true)) (Operand.tmp 17), type := 4, pos := "write.go:235", after := #[{ on := 10, ground := Ground.data }, { on := 13, ground := Ground.data }], guard := none }) (v := .bool true) rfl (by kernel_rfl) (by kernel_rfl) (by kernel_rfl) (fun _ _ _ h => h) (Or.inl ⟨by rfl, fun W hW => ?_⟩) hSw ?_
  · obtain ⟨s0, s1, s2, s3, s4, s5, s6⟩ := hW
    first | (go_simp; done) | rfl
  try simp only [Act.put, List.setIfInBounds_toArray, List.set_cons_zero, List.set_cons_succ]
  refine wpAnyH_ready (rs := [15]) (by kernel_rfl) (by simp) ?_
  refine AllReadyH.cons (o := { dst := some 19, op := Op.call { callee := Callee.value (Operand.func 68), args := #[Operand.tmp 4, Operand.tmp 5, Operand.tmp 18], argTypes := #[49, 33, 4] }, type := 0, pos := "write.go:235", after := #[{ on := 0, ground := Ground.data }, { on := 1, ground := Ground.data }, { on := 14, ground := Ground.data }, { on := 10, ground := Ground.chain }], guard := none }) rfl (fun K hK => ?_) AllReadyH.nil
  rw [if_pos (by rfl)]
  clear hSw
  go_simp
  refine (HA.out _ HW2.out (by omega) (InW.keeps HD2.out.below _ HI.out) (HK.out.below HD2.out.below)).mono ?_
  rintro e w3 ⟨rfl, hW3, hD3⟩
  have HS3 := Lib.hid (OwnX.of (hD3.rest _ _ _ _ HO2.out (by omega) (by decide)))
  have HD3 := Lib.hid (HD2.out.trans hD3)
  have HW3 := Lib.hid hW3
  clear hW3 hD3
  refine hK.out _ _ HS3.out (fun hSw => ?_)
  clear hK K
  try simp only [Act.put, List.setIfInBounds_toArray, List.set_cons_zero, List.set_cons_succ]
  refine wpAnyH_done (by kernel_rfl) ?_ _
  go_end0
  exact ⟨rfl, HW3.out, HD3.out⟩

set_option maxHeartbeats 1000000 in
theorem head_neg (a : X) (hE : EX a) (hf : Fine a) (B c : Nat) (l : List UInt8) (d : Int) (w : World) (h : Wr B c l d w) (hBw : B ≤ w.heap.size) (hI : InW w B a) (hK : Knows B w) (hl : l.length + 100 * X.size a ≤ 999999990) (hs : a.txt.length + 40 ≤ 100 * X.size a) (hp : pairK a.hd.k = false) (h8 : a.hd.k = 8) :
    Calls Tryd.prog 47 #[.pointer (some ⟨c, 0, none⟩), a.val] w (Wrote B c l (partT true a.txt) d w) := by
  obtain ⟨x, hx⟩ : ∃ x, wants a.hd.k = some x := by cases hf with | mk _ _ _ hform _ => exact wants_of hform
  clear hf
  have HA := Lib.hid (fun w' h1 h2 h3 h4 => part_any a hE true B c l d w' h1 h2 h3 h4 hl hs)
  obtain ⟨⟨k, n, nm, tk, tn, tz⟩, s, xs⟩ := a
  have hD := (Did.refl B c w).alloc hBw (.cells #[.int .u8 k, .int .i64 n, .string nm, .int .u8 tk, .string tn, .int .i64 tz, s] 33)
  have h1 := h.alloc (.cells #[.int .u8 k, .int .i64 n, .string nm, .int .u8 tk, .string tn, .int .i64 tz, s] 33)
  have hP := fun w' (hw : Wr B c l d w') => pair_any B c l d k n tk tz nm tn s x w' hw hx
  rw [show pairK k = false from hp] at hP
  have HP := Lib.hid hP
  have hc := h.lt
  have HI := Lib.hid hI
  have HK := Lib.hid hK
  have HD := Lib.hid hD
  have H1 := Lib.hid h1
  have k8 : (k == 8) = true := beq_iff_eq.2 h8
  clear h8
  show Calls Tryd.prog 47 #[.pointer (some ⟨c, 0, none⟩), .agg #[.int .u8 k, .int .i64 n, .string nm, .int .u8 tk, .string tn, .int .i64 tz, s]] w _
  clear hE hx h hI hK hD h1 hl hs hp hP
  go_enter Tryd.func47, Tryd.ntmps47
  go_wp2_with fail
  have HO := Lib.hid (MapKept.heap_alloc w (.cells #[.int .u8 k, .int .i64 n, .string nm, .int .u8 tk, .string tn, .int .i64 tz, s] 33)).1
  refine wp_region_held_drew (S := OwnX w.heap.size k n tk tz nm tn s) (by kernel_rfl) (OwnX.of HO.out) (fun hSw => ?_)
  refine wpAnyH_take (i := 0) (oi := { dst := some 4, op := Op.move (Operand.tmp 0), type := 49, pos := "write.go:235", after := #[], guard := none }) (v := .pointer (some ⟨c, 0, none⟩)) rfl (by kernel_rfl) (by kernel_rfl) (by kernel_rfl) (fun _ _ _ h => h) (Or.inl ⟨by rfl, fun W hW => ?_⟩) hSw ?_
  · obtain ⟨s0, s1, s2, s3, s4, s5, s6⟩ := hW
    first | (go_simp; done) | rfl
  try simp only [Act.put, List.setIfInBounds_toArray, List.set_cons_zero, List.set_cons_succ]
  refine wpAnyH_take (i := 1) (oi := { dst := some 5, op := Op.load 33 (Operand.tmp 3), type := 33, pos := "write.go:235", after := #[], guard := none }) (v := .agg #[.int .u8 k, .int .i64 n, .string nm, .int .u8 tk, .string tn, .int .i64 tz, s]) rfl (by kernel_rfl) (by kernel_rfl) (by kernel_rfl) (fun _ _ _ h => h) (Or.inl ⟨by rfl, fun W hW => ?_⟩) hSw ?_
  · obtain ⟨s0, s1, s2, s3, s4, s5, s6⟩ := hW
    first | (go_simp; done) | rfl
  try simp only [Act.put, List.setIfInBounds_toArray, List.set_cons_zero, List.set_cons_succ]
  refine wpAnyH_take (i := 2) (oi := { dst := some 6, op := Op.move (Operand.tmp 0), type := 49, pos := "write.go:235", after := #[], guard := none }) (v := .pointer (some ⟨c, 0, none⟩)) rfl (by kernel_rfl) (by kernel_rfl) (by kernel_rfl) (fun _ _ _ h => h) (Or.inl ⟨by rfl, fun W hW => ?_⟩) hSw ?_
  · obtain ⟨s0, s1, s2, s3, s4, s5, s6⟩ := hW
    first | (go_simp; done) | rfl
  try simp only [Act.put, List.setIfInBounds_toArray, List.set_cons_zero, List.set_cons_succ]
  refine wpAnyH_take (i := 3) (oi := { dst := some 7, op := Op.load 33 (Operand.tmp 3), type := 33, pos := "write.go:235", after := #[], guard := none }) (v := .agg #[.int .u8 k, .int .i64 n, .string nm, .int .u8 tk, .string tn, .int .i64 tz, s]) rfl (by kernel_rfl) (by kernel_rfl) (by kernel_rfl) (fun _ _ _ h => h) (Or.inl ⟨by rfl, fun W hW => ?_⟩) hSw ?_
  · obtain ⟨s0, s1, s2, s3, s4, s5, s6⟩ := hW
    first | (go_simp; done) | rfl
  try simp only [Act.put, List.setIfInBounds_toArray, List.set_cons_zero, List.set_cons_succ]
  refine wpAnyH_ready (rs := [4]) (by kernel_rfl) (by simp) ?_
  refine AllReadyH.cons (o := { dst := some 8, op := Op.call { callee := Callee.value (Operand.func 69), args := #[Operand.tmp 6, Operand.tmp 7], argTypes := #[49, 33] }, type := 4, pos := "write.go:235", after := #[{ on := 2, ground := Ground.data }, { on := 3, ground := Ground.data }], guard := none }) rfl (fun K hK => ?_) AllReadyH.nil
  rw [if_pos (by rfl)]
  clear hSw
  go_simp
  refine (HP.out _ (H1.out.drew)).mono ?_
  rintro e w2 ⟨rfl, hb2⟩
  have hO2 := (hb2.block _ (by simp)).trans HO.out
  have HS2 := Lib.hid (OwnX.of hO2)
  have hs2 := hb2.size
  simp at hs2
  have HW2 := Lib.hid (H1.out.drew.below hb2)
  have HD2 := Lib.hid (HD.out.grew (by simp; omega) (Below.drew (Below.refl _ _)) |>.grew (by simp; omega) hb2)
  have HO2 := Lib.hid hO2
  clear hb2 hO2
  refine hK.out _ _ HS2.out (fun hSw => ?_)
  clear hK K
  try simp only [Act.put, List.setIfInBounds_toArray, List.set_cons_zero, List.set_cons_succ]
  refine wpAnyH_take (i := 5) (oi := { dst := some 9, op := Op.move (Operand.tmp 8), type := 4, pos := "write.go:235", after := #[{ on := 4, ground := Ground.data }, { on := 4, ground := Ground.chain }], guard := none }) (v := .bool false) rfl (by kernel_rfl) (by kernel_rfl) (by kernel_rfl) (fun _ _ _ h => h) (Or.inl ⟨by rfl, fun W hW => ?_⟩) hSw ?_
  · obtain ⟨s0, s1, s2, s3, s4, s5, s6⟩ := hW
    first | (go_simp; done) | rfl
  try simp only [Act.put, List.setIfInBounds_toArray, List.set_cons_zero, List.set_cons_succ]
  refine wpAnyH_take (i := 6) (oi := { dst := some 10, op := Op.fieldAddr 33 (Operand.tmp 3) 0, type := 0, pos := "write.go:235", after := #[{ on := 5, ground := Ground.guard }], guard := some (5, false) }) (v := .pointer (some ⟨w.heap.size, 0, none⟩)) rfl (by kernel_rfl) (by kernel_rfl) (by kernel_rfl) (fun _ _ _ h => h) (Or.inl ⟨by rfl, fun W hW => ?_⟩) hSw ?_
  · obtain ⟨s0, s1, s2, s3, s4, s5, s6⟩ := hW
    first | (go_simp; done) | rfl
  try simp only [Act.put, List.setIfInBounds_toArray, List.set_cons_zero, List.set_cons_succ]
  refine wpAnyH_take (i := 7) (oi := { dst := some 11, op := Op.load 30 (Operand.tmp 10), type := 30, pos := "write.go:235", after := #[{ on := 6, ground := Ground.data }, { on := 5, ground := Ground.guard }], guard := some (5, false) }) (v := .int .u8 k) rfl (by kernel_rfl) (by kernel_rfl) (by kernel_rfl) (fun _ _ _ h => h) (Or.inl ⟨by rfl, fun W hW => ?_⟩) hSw ?_
  · obtain ⟨s0, s1, s2, s3, s4, s5, s6⟩ := hW
    first | (go_simp; done) | rfl
  try simp only [Act.put, List.setIfInBounds_toArray, List.set_cons_zero, List.set_cons_succ]
  refine wpAnyH_take (i := 8) (oi := { dst := some 12, op := Op.binOp BinOp.eql 30 (Operand.tmp 11) (Operand.const (Value.int IntKind.u8 8)) 30, type := 4, pos := "write.go:235", after := #[{ on := 7, ground := Ground.data }, { on := 5, ground := Ground.guard }], guard := some (5, false) }) (v := .bool true) rfl (by kernel_rfl) (by kernel_rfl) (by kernel_rfl) (fun _ _ _ h => h) (Or.inl ⟨by rfl, fun W hW => ?_⟩) hSw ?_
  · obtain ⟨s0, s1, s2, s3, s4, s5, s6⟩ := hW
    first | (go_simp; done) | rfl
  try simp only [Act.put, List.setIfInBounds_toArray, List.set_cons_zero, List.set_cons_succ]
  refine wpAnyH_take (i := 9) (oi := { dst := some 13, op := Op.pick (Operand.tmp 9) (Operand.const (Value.bool true)) (Operand.tmp 12), type := 4, pos := "write.go:235", after := #[{ on := 5, ground := Ground.data }, { on := 8, ground := Ground.data }], guard := none }) (v := .bool true) rfl (by kernel_rfl) (by kernel_rfl) (by kernel_rfl) (fun _ _ _ h => h) (Or.inl ⟨by rfl, fun W hW => ?_⟩) hSw ?_
  · obtain ⟨s0, s1, s2, s3, s4, s5, s6⟩ := hW
    first | (go_simp; done) | rfl
  try simp only [Act.put, List.setIfInBounds_toArray, List.set_cons_zero, List.set_cons_succ]
  refine wpAnyH_take (i := 10) (oi := { dst := some 14, op := Op.move (Operand.tmp 13), type := 4, pos := "write.go:235", after := #[{ on := 9, ground := Ground.data }, { on := 5, ground := Ground.chain }], guard := none }) (v := .bool true) rfl (by kernel_rfl) (by kernel_rfl) (by kernel_rfl) (fun _ _ _ h => h) (Or.inl ⟨by rfl, fun W hW => ?_⟩) hSw ?_
  · obtain ⟨s0, s1, s2, s3, s4, s5, s6⟩ := hW
    first | (go_simp; done) | rfl
  try simp only [Act.put, List.setIfInBounds_toArray, List.set_cons_zero, List.set_cons_succ]
  refine wpAnyH_take (i := 11) (oi := { dst := some 15, op := Op.fieldAddr 33 (Operand.tmp 3) 0, type := 0, pos := "write.go:235", after := #[{ on := 10, ground := Ground.guard }], guard := some (10, false) }) (v := undef) rfl (by kernel_rfl) (by kernel_rfl) (by kernel_rfl) (fun _ _ _ h => h) (Or.inr ⟨by rfl, rfl⟩) hSw ?_
  try simp only [Act.put, List.setIfInBounds_toArray, List.set_cons_zero, List.set_cons_succ]
  refine wpAnyH_take (i := 12) (oi := { dst := some 16, op := Op.load 30 (Operand.tmp 15), type := 30, pos := "write.go:235", after := #[{ on := 11, ground := Ground.data }, { on := 10, ground := Ground.guard }], guard := some (10, false) }) (v := undef) rfl (by kernel_rfl) (by kernel_rfl) (by kernel_rfl) (fun _ _ _ h => h) (Or.inr ⟨by rfl, rfl⟩) hSw ?_
  try simp only [Act.put, List.setIfInBounds_toArray, List.set_cons_zero, List.set_cons_succ]
  refine wpAnyH_take (i := 13) (oi := { dst := some 17, op := Op.binOp BinOp.eql 30 (Operand.tmp 16) (Operand.const (Value.int IntKind.u8 9)) 30, type := 4, pos := "write.go:235", after := #[{ on := 12, ground := Ground.data }, { on := 10, ground := Ground.guard }], guard := some (10, false) }) (v := undef) rfl (by kernel_rfl) (by kernel_rfl) (by kernel_rfl) (fun _ _ _ h => h) (Or.inr ⟨by rfl, rfl⟩) hSw ?_
  try simp only [Act.put, List.setIfInBounds_toArray, List.set_cons_zero, List.set_cons_succ]
  refine wpAnyH_take (i := 14) (oi := { dst := some 18, op := Op.pick (Operand.tmp 14) (Operand.const (Value.bool true)) (Operand.tmp 17), type := 4, pos := "write.go:235", after := #[{ on := 10, ground := Ground.data }, { on := 13, ground := Ground.data }], guard := none }) (v := .bool true) rfl (by kernel_rfl) (by kernel_rfl) (by kernel_rfl) (fun _ _ _ h => h) (Or.inl ⟨by rfl, fun W hW => ?_⟩) hSw ?_
  · obtain ⟨s0, s1, s2, s3, s4, s5, s6⟩ := hW
    first | (go_simp; done) | rfl
  try simp only [Act.put, List.setIfInBounds_toArray, List.set_cons_zero, List.set_cons_succ]
  refine wpAnyH_ready (rs := [15]) (by kernel_rfl) (by simp) ?_
  refine AllReadyH.cons (o := { dst := some 19, op := Op.call { callee := Callee.value (Operand.func 68), args := #[Operand.tmp 4, Operand.tmp 5, Operand.tmp 18], argTypes := #[49, 33, 4] }, type := 0, pos := "write.go:235", after := #[{ on := 0, ground := Ground.data }, { on := 1, ground := Ground.data }, { on := 14, ground := Ground.data }, { on := 10, ground := Ground.chain }], guard := none }) rfl (fun K hK => ?_) AllReadyH.nil
  rw [if_pos (by rfl)]
  clear hSw
  go_simp
  refine (HA.out _ HW2.out (by omega) (InW.keeps HD2.out.below _ HI.out) (HK.out.below HD2.out.below)).mono ?_
  rintro e w3 ⟨rfl, hW3, hD3⟩
  have HS3 := Lib.hid (OwnX.of (hD3.rest _ _ _ _ HO2.out (by omega) (by decide)))
  have HD3 := Lib.hid (HD2.out.trans hD3)
  have HW3 := Lib.hid hW3
  clear hW3 hD3
  refine hK.out _ _ HS3.out (fun hSw => ?_)
  clear hK K
  try simp only [Act.put, List.setIfInBounds_toArray, List.set_cons_zero, List.set_cons_succ]
  refine wpAnyH_done (by kernel_rfl) ?_ _
  go_end0
  exact ⟨rfl, HW3.out, HD3.out⟩

set_option maxHeartbeats 1000000 in
theorem head_not (a : X) (hE : EX a) (hf : Fine a) (B c : Nat) (l : List UInt8) (d : Int) (w : World) (h : Wr B c l d w) (hBw : B ≤ w.heap.size) (hI : InW w B a) (hK : Knows B w) (hl : l.length + 100 * X.size a ≤ 999999990) (hs : a.txt.length + 40 ≤ 100 * X.size a) (hp : pairK a.hd.k = false) (h9 : a.hd.k = 9) :
    Calls Tryd.prog 47 #[.pointer (some ⟨c, 0, none⟩), a.val] w (Wrote B c l (partT true a.txt) d w) := by
  obtain ⟨x, hx⟩ : ∃ x, wants a.hd.k = some x := by cases hf with | mk _ _ _ hform _ => exact wants_of hform
  clear hf
  have HA := Lib.hid (fun w' h1 h2 h3 h4 => part_any a hE true B c l d w' h1 h2 h3 h4 hl hs)
  obtain ⟨⟨k, n, nm, tk, tn, tz⟩, s, xs⟩ := a
  have hD := (Did.refl B c w).alloc hBw (.cells #[.int .u8 k, .int .i64 n, .string nm, .int .u8 tk, .string tn, .int .i64 tz, s] 33)
  have h1 := h.alloc (.cells #[.int .u8 k, .int .i64 n, .string nm, .int .u8 tk, .string tn, .int .i64 tz, s] 33)
  have hP := fun w' (hw : Wr B c l d w') => pair_any B c l d k n tk tz nm tn s x w' hw hx
  rw [show pairK k = false from hp] at hP
  have HP := Lib.hid hP
  have hc := h.lt
  have HI := Lib.hid hI
  have HK := Lib.hid hK
  have HD := Lib.hid hD
  have H1 := Lib.hid h1
  have k8 : (k == 8) = false := beq_eq_false_iff_ne.2 (fun e => by rw [show k = 9 from h9] at e; cases e)
  have k9 : (k == 9) = true := beq_iff_eq.2 h9
  clear h9
  show Calls Tryd.prog 47 #[.pointer (some ⟨c, 0, none⟩), .agg #[.int .u8 k, .int .i64 n, .string nm, .int .u8 tk, .string tn, .int .i64 tz, s]] w _
  clear hE hx h hI hK hD h1 hl hs hp hP
  go_enter Tryd.func47, Tryd.ntmps47
  go_wp2_with fail
  have HO := Lib.hid (MapKept.heap_alloc w (.cells #[.int .u8 k, .int .i64 n, .string nm, .int .u8 tk, .string tn, .int .i64 tz, s] 33)).1
  refine wp_region_held_drew (S := OwnX w.heap.size k n tk tz nm tn s) (by kernel_rfl) (OwnX.of HO.out) (fun hSw => ?_)
  refine wpAnyH_take (i := 0) (oi := { dst := some 4, op := Op.move (Operand.tmp 0), type := 49, pos := "write.go:235", after := #[], guard := none }) (v := .pointer (some ⟨c, 0, none⟩)) rfl (by kernel_rfl) (by kernel_rfl) (by kernel_rfl) (fun _ _ _ h => h) (Or.inl ⟨by rfl, fun W hW => ?_⟩) hSw ?_
  · obtain ⟨s0, s1, s2, s3, s4, s5, s6⟩ := hW
    first | (go_simp; done) | rfl
  try simp only [Act.put, List.setIfInBounds_toArray, List.set_cons_zero, List.set_cons_succ]
  refine wpAnyH_take (i := 1) (oi := { dst := some 5, op := Op.load 33 (Operand.tmp 3), type := 33, pos := "write.go:235", after := #[], guard := none }) (v := .agg #[.int .u8 k, .int .i64 n, .string nm, .int .u8 tk, .string tn, .int .i64 tz, s]) rfl (by kernel_rfl) (by kernel_rfl) (by kernel_rfl) (fun _ _ _ h => h) (Or.inl ⟨by rfl, fun W hW => ?_⟩) hSw ?_
  · obtain ⟨s0, s1, s2, s3, s4, s5, s6⟩ := hW
    first | (go_simp; done) | rfl
  try simp only [Act.put, List.setIfInBounds_toArray, List.set_cons_zero, List.set_cons_succ]
  refine wpAnyH_take (i := 2) (oi := { dst := some 6, op := Op.move (Operand.tmp 0), type := 49, pos := "write.go:235", after := #[], guard := none }) (v := .pointer (some ⟨c, 0, none⟩)) rfl (by kernel_rfl) (by kernel_rfl) (by kernel_rfl) (fun _ _ _ h => h) (Or.inl ⟨by rfl, fun W hW => ?_⟩) hSw ?_
  · obtain ⟨s0, s1, s2, s3, s4, s5, s6⟩ := hW
    first | (go_simp; done) | rfl
  try simp only [Act.put, List.setIfInBounds_toArray, List.set_cons_zero, List.set_cons_succ]
  refine wpAnyH_take (i := 3) (oi := { dst := some 7, op := Op.load 33 (Operand.tmp 3), type := 33, pos := "write.go:235", after := #[], guard := none }) (v := .agg #[.int .u8 k, .int .i64 n, .string nm, .int .u8 tk, .string tn, .int .i64 tz, s]) rfl (by kernel_rfl) (by kernel_rfl) (by kernel_rfl) (fun _ _ _ h => h) (Or.inl ⟨by rfl, fun W hW => ?_⟩) hSw ?_
  · obtain ⟨s0, s1, s2, s3, s4, s5, s6⟩ := hW
    first | (go_simp; done) | rfl
  try simp only [Act.put, List.setIfInBounds_toArray, List.set_cons_zero, List.set_cons_succ]
  refine wpAnyH_ready (rs := [4]) (by kernel_rfl) (by simp) ?_
  refine AllReadyH.cons (o := { dst := some 8, op := Op.call { callee := Callee.value (Operand.func 69), args := #[Operand.tmp 6, Operand.tmp 7], argTypes := #[49, 33] }, type := 4, pos := "write.go:235", after := #[{ on := 2, ground := Ground.data }, { on := 3, ground := Ground.data }], guard := none }) rfl (fun K hK => ?_) AllReadyH.nil
  rw [if_pos (by rfl)]
  clear hSw
  go_simp
  refine (HP.out _ (H1.out.drew)).mono ?_
  rintro e w2 ⟨rfl, hb2⟩
  have hO2 := (hb2.block _ (by simp)).trans HO.out
  have HS2 := Lib.hid (OwnX.of hO2)
  have hs2 := hb2.size
  simp at hs2
  have HW2 := Lib.hid (H1.out.drew.below hb2)
  have HD2 := Lib.hid (HD.out.grew (by simp; omega) (Below.drew (Below.refl _ _)) |>.grew (by simp; omega) hb2)
  have HO2 := Lib.hid hO2
  clear hb2 hO2
  refine hK.out _ _ HS2.out (fun hSw => ?_)
  clear hK K
  try simp only [Act.put, List.setIfInBounds_toArray, List.set_cons_zero, List.set_cons_succ]
  refine wpAnyH_take (i := 5) (oi := { dst := some 9, op := Op.move (Operand.tmp 8), type := 4, pos := "write.go:235", after := #[{ on := 4, ground := Ground.data }, { on := 4, ground := Ground.chain }], guard := none }) (v := .bool false) rfl (by kernel_rfl) (by kernel_rfl) (by kernel_rfl) (fun _ _ _ h => h) (Or.inl ⟨by rfl, fun W hW => ?_⟩) hSw ?_
  · obtain ⟨s0, s1, s2, s3, s4, s5, s6⟩ := hW
    first | (go_simp; done) | rfl
  try simp only [Act.put, List.setIfInBounds_toArray, List.set_cons_zero, List.set_cons_succ]
  refine wpAnyH_take (i := 6) (oi := { dst := some 10, op := Op.fieldAddr 33 (Operand.tmp 3) 0, type := 0, pos := "write.go:235", after := #[{ on := 5, ground := Ground.guard }], guard := some (5, false) }) (v := .pointer (some ⟨w.heap.size, 0, none⟩)) rfl (by kernel_rfl) (by kernel_rfl) (by kernel_rfl) (fun _ _ _ h => h) (Or.inl ⟨by rfl, fun W hW => ?_⟩) hSw ?_
  · obtain ⟨s0, s1, s2, s3, s4, s5, s6⟩ := hW
    first | (go_simp; done) | rfl
  try simp only [Act.put, List.setIfInBounds_toArray, List.set_cons_zero, List.set_cons_succ]
  refine wpAnyH_take (i := 7) (oi := { dst := some 11, op := Op.load 30 (Operand.tmp 10), type := 30, pos := "write.go:235", after := #[{ on := 6, ground := Ground.data }, { on := 5, ground := Ground.guard }], guard := some (5, false) }) (v := .int .u8 k) rfl (by kernel_rfl) (by kernel_rfl) (by kernel_rfl) (fun _ _ _ h => h) (Or.inl ⟨by rfl, fun W hW => ?_⟩) hSw ?_
  · obtain ⟨s0, s1, s2, s3, s4, s5, s6⟩ := hW
    first | (go_simp; done) | rfl
  try simp only [Act.put, List.setIfInBounds_toArray, List.set_cons_zero, List.set_cons_succ]
  refine wpAnyH_take (i := 8) (oi := { dst := some 12, op := Op.binOp BinOp.eql 30 (Operand.tmp 11) (Operand.const (Value.int IntKind.u8 8)) 30, type := 4, pos := "write.go:235", after := #[{ on := 7, ground := Ground.data }, { on := 5, ground := Ground.guard }], guard := some (5, false) }) (v := .bool false) rfl (by kernel_rfl) (by kernel_rfl) (by kernel_rfl) (fun _ _ _ h => h) (Or.inl ⟨by rfl, fun W hW => ?_⟩) hSw ?_
  · obtain ⟨s0, s1, s2, s3, s4, s5, s6⟩ := hW
    first | (go_simp; done) | rfl
  try simp only [Act.put, List.setIfInBounds_toArray, List.set_cons_zero, List.set_cons_succ]
  refine wpAnyH_take (i := 9) (oi := { dst := some 13, op := Op.pick (Operand.tmp 9) (Operand.const (Value.bool true)) (Operand.tmp 12), type := 4, pos := "write.go:235", after := #[{ on := 5, ground := Ground.data }, { on := 8, ground := Ground.data }], guard := none }) (v := .bool false) rfl (by kernel_rfl) (by kernel_rfl) (by kernel_rfl) (fun _ _ _ h => h) (Or.inl ⟨by rfl, fun W hW => ?_⟩) hSw ?_
  · obtain ⟨s0, s1, s2, s3, s4, s5, s6⟩ := hW
    first | (go_simp; done) | rfl
  try simp only [Act.put, List.setIfInBounds_toArray, List.set_cons_zero, List.set_cons_succ]
  refine wpAnyH_take (i := 10) (oi := { dst := some 14, op := Op.move (Operand.tmp 13), type := 4, pos := "write.go:235", after := #[{ on := 9, ground := Ground.data }, { on := 5, ground := Ground.chain }], guard := none }) (v := .bool false) rfl (by kernel_rfl) (by kernel_rfl) (by kernel_rfl) (fun _ _ _ h => h) (Or.inl ⟨by rfl, fun W hW => ?_⟩) hSw ?_
  · obtain ⟨s0, s1, s2, s3, s4, s5, s6⟩ := hW
    first | (go_simp; done) | rfl
  try simp only [Act.put, List.setIfInBounds_toArray, List.set_cons_zero, List.set_cons_succ]
  refine wpAnyH_take (i := 11) (oi := { dst := some 15, op := Op.fieldAddr 33 (Operand.tmp 3) 0, type := 0, pos := "write.go:235", after := #[{ on := 10, ground := Ground.guard }], guard := some (10, false) }) (v := .pointer (some ⟨w.heap.size, 0, none⟩)) rfl (by kernel_rfl) (by kernel_rfl) (by kernel_rfl) (fun _ _ _ h => h) (Or.inl ⟨by rfl, fun W hW => ?_⟩) hSw ?_
  · obtain ⟨s0, s1, s2, s3, s4, s5, s6⟩ := hW
    first | (go_simp; done) | rfl
  try simp only [Act.put, List.setIfInBounds_toArray, List.set_cons_zero, List.set_cons_succ]
  refine wpAnyH_take (i := 12) (oi := { dst := some 16, op := Op.load 30 (Operand.tmp 15), type := 30, pos := "write.go:235", after := #[{ on := 11, ground := Ground.data }, { on := 10, ground := Ground.guard }], guard := some (10, false) }) (v := .int .u8 k) rfl (by kernel_rfl) (by kernel_rfl) (by kernel_rfl) (fun _ _ _ h => h) (Or.inl ⟨by rfl, fun W hW => ?_⟩) hSw ?_
  · obtain ⟨s0, s1, s2, s3, s4, s5, s6⟩ := hW
    first | (go_simp; done) | rfl
  try simp only [Act.put, List.setIfInBounds_toArray, List.set_cons_zero, List.set_cons_succ]
  refine wpAnyH_take (i := 13) (oi := { dst := some 17, op := Op.binOp BinOp.eql 30 (Operand.tmp 16) (Operand.const (Value.int IntKind.u8 9)) 30, type := 4, pos := "write.go:235", after := #[{ on := 12, ground := Ground.data }, { on := 10, ground := Ground.guard }], guard := some (10, false) }) (v := .bool true) rfl (by kernel_rfl) (by kernel_rfl) (by kernel_rfl) (fun _ _ _ h => h) (Or.inl ⟨by rfl, fun W hW => ?_⟩) hSw ?_
  · obtain ⟨s0, s1, s2, s3, s4, s5, s6⟩ := hW
    first | (go_simp; done) | rfl
  try simp only [Act.put, List.setIfInBounds_toArray, List.set_cons_zero, List.set_cons_succ]
  refine wpAnyH_take (i := 14) (oi := { dst := some 18, op := Op.pick (Operand.tmp 14) (Operand.const (Value.bool true)) (Operand.tmp 17), type := 4, pos := "write.go:235", after := #[{ on := 10, ground := Ground.data }, { on := 13, ground := Ground.data }], guard := none }) (v := .bool true) rfl (by kernel_rfl) (by kernel_rfl) (by kernel_rfl) (fun _ _ _ h => h) (Or.inl ⟨by rfl, fun W hW => ?_⟩) hSw ?_
  · obtain ⟨s0, s1, s2, s3, s4, s5, s6⟩ := hW
    first | (go_simp; done) | rfl
  try simp only [Act.put, List.setIfInBounds_toArray, List.set_cons_zero, List.set_cons_succ]
  refine wpAnyH_ready (rs := [15]) (by kernel_rfl) (by simp) ?_
  refine AllReadyH.cons (o := { dst := some 19, op := Op.call { callee := Callee.value (Operand.func 68), args := #[Operand.tmp 4, Operand.tmp 5, Operand.tmp 18], argTypes := #[49, 33, 4] }, type := 0, pos := "write.go:235", after := #[{ on := 0, ground := Ground.data }, { on := 1, ground := Ground.data }, { on := 14, ground := Ground.data }, { on := 10, ground := Ground.chain }], guard := none }) rfl (fun K hK => ?_) AllReadyH.nil
  rw [if_pos (by rfl)]
  clear hSw
  go_simp
  refine (HA.out _ HW2.out (by omega) (InW.keeps HD2.out.below _ HI.out) (HK.out.below HD2.out.below)).mono ?_
  rintro e w3 ⟨rfl, hW3, hD3⟩
  have HS3 := Lib.hid (OwnX.of (hD3.rest _ _ _ _ HO2.out (by omega) (by decide)))
  have HD3 := Lib.hid (HD2.out.trans hD3)
  have HW3 := Lib.hid hW3
  clear hW3 hD3
  refine hK.out _ _ HS3.out (fun hSw => ?_)
  clear hK K
  try simp only [Act.put, List.setIfInBounds_toArray, List.set_cons_zero, List.set_cons_succ]
  refine wpAnyH_done (by kernel_rfl) ?_ _
  go_end0
  exact ⟨rfl, HW3.out, HD3.out⟩

set_option maxHeartbeats 1000000 in
theorem head_else (a : X) (hE : EX a) (hf : Fine a) (B c : Nat) (l : List UInt8) (d : Int) (w : World) (h : Wr B c l d w) (hBw : B ≤ w.heap.size) (hI : InW w B a) (hK : Knows B w) (hl : l.length + 100 * X.size a ≤ 999999990) (hs : a.txt.length + 40 ≤ 100 * X.size a) (hp : pairK a.hd.k = false) (h8 : ¬ a.hd.k = 8) (h9 : ¬ a.hd.k = 9) :
    Calls Tryd.prog 47 #[.pointer (some ⟨c, 0, none⟩), a.val] w (Wrote B c l (partT false a.txt) d w) := by
  obtain ⟨x, hx⟩ : ∃ x, wants a.hd.k = some x := by cases hf with | mk _ _ _ hform _ => exact wants_of hform
  clear hf
  have HA := Lib.hid (fun w' h1 h2 h3 h4 => part_any a hE false B c l d w' h1 h2 h3 h4 hl hs)
  obtain ⟨⟨k, n, nm, tk, tn, tz⟩, s, xs⟩ := a
  have hD := (Did.refl B c w).alloc hBw (.cells #[.int .u8 k, .int .i64 n, .string nm, .int .u8 tk, .string tn, .int .i64 tz, s] 33)
  have h1 := h.alloc (.cells #[.int .u8 k, .int .i64 n, .string nm, .int .u8 tk, .string tn, .int .i64 tz, s] 33)
  have hP := fun w' (hw : Wr B c l d w') => pair_any B c l d k n tk tz nm tn s x w' hw hx
  rw [show pairK k = false from hp] at hP
  have HP := Lib.hid hP
  have hc := h.lt
  have HI := Lib.hid hI
  have HK := Lib.hid hK
  have HD := Lib.hid hD
  have H1 := Lib.hid h1
  have k8 : (k == 8) = false := beq_eq_false_iff_ne.2 h8
  have k9 : (k == 9) = false := beq_eq_false_iff_ne.2 h9
  clear h8 h9
  show Calls Tryd.prog 47 #[.pointer (some ⟨c, 0, none⟩), .agg #[.int .u8 k, .int .i64 n, .string nm, .int .u8 tk, .string tn, .int .i64 tz, s]] w _
  clear hE hx h hI hK hD h1 hl hs hp hP
  go_enter Tryd.func47, Tryd.ntmps47
  go_wp2_with fail
  have HO := Lib.hid (MapKept.heap_alloc w (.cells #[.int .u8 k, .int .i64 n, .string nm, .int .u8 tk, .string tn, .int .i64 tz, s] 33)).1
  refine wp_region_held_drew (S := OwnX w.heap.size k n tk tz nm tn s) (by kernel_rfl) (OwnX.of HO.out) (fun hSw => ?_)
  refine wpAnyH_take (i := 0) (oi := { dst := some 4, op := Op.move (Operand.tmp 0), type := 49, pos := "write.go:235", after := #[], guard := none }) (v := .pointer (some ⟨c, 0, none⟩)) rfl (by kernel_rfl) (by kernel_rfl) (by kernel_rfl) (fun _ _ _ h => h) (Or.inl ⟨by rfl, fun W hW => ?_⟩) hSw ?_
  · obtain ⟨s0, s1, s2, s3, s4, s5, s6⟩ := hW
    first | (go_simp; done) | rfl
  try simp only [Act.put, List.setIfInBounds_toArray, List.set_cons_zero, List.set_cons_succ]
  refine wpAnyH_take (i := 1) (oi := { dst := some 5, op := Op.load 33 (Operand.tmp 3), type := 33, pos := "write.go:235", after := #[], guard := none }) (v := .agg #[.int .u8 k, .int .i64 n, .string nm, .int .u8 tk, .string tn, .int .i64 tz, s]) rfl (by kernel_rfl) (by kernel_rfl) (by kernel_rfl) (fun _ _ _ h => h) (Or.inl ⟨by rfl, fun W hW => ?_⟩) hSw ?_
  · obtain ⟨s0, s1, s2, s3, s4, s5, s6⟩ := hW
    first | (go_simp; done) | rfl
  try simp only [Act.put, List.setIfInBounds_toArray, List.set_cons_zero, List.set_cons_succ]
  refine wpAnyH_take (i := 2) (oi := { dst := some 6, op := Op.move (Operand.tmp 0), type := 49, pos := "write.go:235", after := #[], guard := none }) (v := .pointer (some ⟨c, 0, none⟩)) rfl (by kernel_rfl) (by kernel_rfl) (by kernel_rfl) (fun _ _ _ h => h) (Or.inl ⟨by rfl, fun W hW => ?_⟩) hSw ?_
  · obtain ⟨s0, s1, s2, s3, s4, s5, s6⟩ := hW
    first | (go_simp; done) | rfl
  try simp only [Act.put, List.setIfInBounds_toArray, List.set_cons_zero, List.set_cons_succ]
  refine wpAnyH_take (i := 3) (oi := { dst := some 7, op := Op.load 33 (Operand.tmp 3), type := 33, pos := "write.go:235", after := #[], guard := none }) (v := .agg #[.int .u8 k, .int .i64 n, .string nm, .int .u8 tk, .string tn, .int .i64 tz, s]) rfl (by kernel_rfl) (by kernel_rfl) (by kernel_rfl) (fun _ _ _ h => h) (Or.inl ⟨by rfl, fun W hW => ?_⟩) hSw ?_
  · obtain ⟨s0, s1, s2, s3, s4, s5, s6⟩ := hW
    first | (go_simp; done) | rfl
  try simp only [Act.put, List.setIfInBounds_toArray, List.set_cons_zero, List.set_cons_succ]
  refine wpAnyH_ready (rs := [4]) (by kernel_rfl) (by simp) ?_
  refine AllReadyH.cons (o := { dst := some 8, op := Op.call { callee := Callee.value (Operand.func 69), args := #[Operand.tmp 6, Operand.tmp 7], argTypes := #[49, 33] }, type := 4, pos := "write.go:235", after := #[{ on := 2, ground := Ground.data }, { on := 3, ground := Ground.data }], guard := none }) rfl (fun K hK => ?_) AllReadyH.nil
  rw [if_pos (by rfl)]
  clear hSw
  go_simp
  refine (HP.out _ (H1.out.drew)).mono ?_
  rintro e w2 ⟨rfl, hb2⟩
  have hO2 := (hb2.block _ (by simp)).trans HO.out
  have HS2 := Lib.hid (OwnX.of hO2)
  have hs2 := hb2.size
  simp at hs2
  have HW2 := Lib.hid (H1.out.drew.below hb2)
  have HD2 := Lib.hid (HD.out.grew (by simp; omega) (Below.drew (Below.refl _ _)) |>.grew (by simp; omega) hb2)
  have HO2 := Lib.hid hO2
  clear hb2 hO2
  refine hK.out _ _ HS2.out (fun hSw => ?_)
  clear hK K
  try simp only [Act.put, List.setIfInBounds_toArray, List.set_cons_zero, List.set_cons_succ]
  refine wpAnyH_take (i := 5) (oi := { dst := some 9, op := Op.move (Operand.tmp 8), type := 4, pos := "write.go:235", after := #[{ on := 4, ground := Ground.data }, { on := 4, ground := Ground.chain }], guard := none }) (v := .bool false) rfl (by kernel_rfl) (by kernel_rfl) (by kernel_rfl) (fun _ _ _ h => h) (Or.inl ⟨by rfl, fun W hW => ?_⟩) hSw ?_
  · obtain ⟨s0, s1, s2, s3, s4, s5, s6⟩ := hW
    first | (go_simp; done) | rfl
  try simp only [Act.put, List.setIfInBounds_toArray, List.set_cons_zero, List.set_cons_succ]
  refine wpAnyH_take (i := 6) (oi := { dst := some 10, op := Op.fieldAddr 33 (Operand.tmp 3) 0, type := 0, pos := "write.go:235", after := #[{ on := 5, ground := Ground.guard }], guard := some (5, false) }) (v := .pointer (some ⟨w.heap.size, 0, none⟩)) rfl (by kernel_rfl) (by kernel_rfl) (by kernel_rfl) (fun _ _ _ h => h) (Or.inl ⟨by rfl, fun W hW => ?_⟩) hSw ?_
  · obtain ⟨s0, s1, s2, s3, s4, s5, s6⟩ := hW
    first | (go_simp; done) | rfl
  try simp only [Act.put, List.setIfInBounds_toArray, List.set_cons_zero, List.set_cons_succ]
  refine wpAnyH_take (i := 7) (oi := { dst := some 11, op := Op.load 30 (Operand.tmp 10), type := 30, pos := "write.go:235", after := #[{ on := 6, ground := Ground.data }, { on := 5, ground := Ground.guard }], guard := some (5, false) }) (v := .int .u8 k) rfl (by kernel_rfl) (by kernel_rfl) (by kernel_rfl) (fun _ _ _ h => h) (Or.inl ⟨by rfl, fun W hW => ?_⟩) hSw ?_
  · obtain ⟨s0, s1, s2, s3, s4, s5, s6⟩ := hW
    first | (go_simp; done) | rfl
  try simp only [Act.put, List.setIfInBounds_toArray, List.set_cons_zero, List.set_cons_succ]
  refine wpAnyH_take (i := 8) (oi := { dst := some 12, op := Op.binOp BinOp.eql 30 (Operand.tmp 11) (Operand.const (Value.int IntKind.u8 8)) 30, type := 4, pos := "write.go:235", after := #[{ on := 7, ground := Ground.data }, { on := 5, ground := Ground.guard }], guard := some (5, false) }) (v := .bool false) rfl (by kernel_rfl) (by kernel_rfl) (by kernel_rfl) (fun _ _ _ h => h) (Or.inl ⟨by rfl, fun W hW => ?_⟩) hSw ?_
  · obtain ⟨s0, s1, s2, s3, s4, s5, s6⟩ := hW
    first | (go_simp; done) | rfl
  try simp only [Act.put, List.setIfInBounds_toArray, List.set_cons_zero, List.set_cons_succ]
  refine wpAnyH_take (i := 9) (oi := { dst := some 13, op := Op.pick (Operand.tmp 9) (Operand.const (Value.bool true)) (Operand.tmp 12), type := 4, pos := "write.go:235", after := #[{ on := 5, ground := Ground.data }, { on := 8, ground := Ground.data }], guard := none }) (v := .bool false) rfl (by kernel_rfl) (by kernel_rfl) (by kernel_rfl) (fun _ _ _ h => h) (Or.inl ⟨by rfl, fun W hW => ?_⟩) hSw ?_
  · obtain ⟨s0, s1, s2, s3, s4, s5, s6⟩ := hW
    first | (go_simp; done) | rfl
  try simp only [Act.put, List.setIfInBounds_toArray, List.set_cons_zero, List.set_cons_succ]
  refine wpAnyH_take (i := 10) (oi := { dst := some 14, op := Op.move (Operand.tmp 13), type := 4, pos := "write.go:235", after := #[{ on := 9, ground := Ground.data }, { on := 5, ground := Ground.chain }], guard := none }) (v := .bool false) rfl (by kernel_rfl) (by kernel_rfl) (by kernel_rfl) (fun _ _ _ h => h) (Or.inl ⟨by rfl, fun W hW => ?_⟩) hSw ?_
  · obtain ⟨s0, s1, s2, s3, s4, s5, s6⟩ := hW
    first | (go_simp; done) | rfl
  try simp only [Act.put, List.setIfInBounds_toArray, List.set_cons_zero, List.set_cons_succ]
  refine wpAnyH_take (i := 11) (oi := { dst := some 15, op := Op.fieldAddr 33 (Operand.tmp 3) 0, type := 0, pos := "write.go:235", after := #[{ on := 10, ground := Ground.guard }], guard := some (10, false) }) (v := .pointer (some ⟨w.heap.size, 0, none⟩)) rfl (by kernel_rfl) (by kernel_rfl) (by kernel_rfl) (fun _ _ _ h => h) (Or.inl ⟨by rfl, fun W hW => ?_⟩) hSw ?_
  · obtain ⟨s0, s1, s2, s3, s4, s5, s6⟩ := hW
    first | (go_simp; done) | rfl
  try simp only [Act.put, List.setIfInBounds_toArray, List.set_cons_zero, List.set_cons_succ]
  refine wpAnyH_take (i := 12) (oi := { dst := some 16, op := Op.load 30 (Operand.tmp 15), type := 30, pos := "write.go:235", after := #[{ on := 11, ground := Ground.data }, { on := 10, ground := Ground.guard }], guard := some (10, false) }) (v := .int .u8 k) rfl (by kernel_rfl) (by kernel_rfl) (by kernel_rfl) (fun _ _ _ h => h) (Or.inl ⟨by rfl, fun W hW => ?_⟩) hSw ?_
  · obtain ⟨s0, s1, s2, s3, s4, s5, s6⟩ := hW
    first | (go_simp; done) | rfl
  try simp only [Act.put, List.setIfInBounds_toArray, List.set_cons_zero, List.set_cons_succ]
  refine wpAnyH_take (i := 13) (oi := { dst := some 17, op := Op.binOp BinOp.eql 30 (Operand.tmp 16) (Operand.const (Value.int IntKind.u8 9)) 30, type := 4, pos := "write.go:235", after := #[{ on := 12, ground := Ground.data }, { on := 10, ground := Ground.guard }], guard := some (10, false) }) (v := .bool false) rfl (by kernel_rfl) (by kernel_rfl) (by kernel_rfl) (fun _ _ _ h => h) (Or.inl ⟨by rfl, fun W hW => ?_⟩) hSw ?_
  · obtain ⟨s0, s1, s2, s3, s4, s5, s6⟩ := hW
    first | (go_simp; done) | rfl
  try simp only [Act.put, List.setIfInBounds_toArray, List.set_cons_zero, List.set_cons_succ]
  refine wpAnyH_take (i := 14) (oi := { dst := some 18, op := Op.pick (Operand.tmp 14) (Operand.const (Value.bool true)) (Operand.tmp 17), type := 4, pos := "write.go:235", after := #[{ on := 10, ground := Ground.data }, { on := 13, ground := Ground.data }], guard := none }) (v := .bool false) rfl (by kernel_rfl) (by kernel_rfl) (by kernel_rfl) (fun _ _ _ h => h) (Or.inl ⟨by rfl, fun W hW => ?_⟩) hSw ?_
  · obtain ⟨s0, s1, s2, s3, s4, s5, s6⟩ := hW
    first | (go_simp; done) | rfl
  try simp only [Act.put, List.setIfInBounds_toArray, List.set_cons_zero, List.set_cons_succ]
  refine wpAnyH_ready (rs := [15]) (by kernel_rfl) (by simp) ?_
  refine AllReadyH.cons (o := { dst := some 19, op := Op.call { callee := Callee.value (Operand.func 68), args := #[Operand.tmp 4, Operand.tmp 5, Operand.tmp 18], argTypes := #[49, 33, 4] }, type := 0, pos := "write.go:235", after := #[{ on := 0, ground := Ground.data }, { on := 1, ground := Ground.data }, { on := 14, ground := Ground.data }, { on := 10, ground := Ground.chain }], guard := none }) rfl (fun K hK => ?_) AllReadyH.nil
  rw [if_pos (by rfl)]
  clear hSw
  go_simp
  refine (HA.out _ HW2.out (by omega) (InW.keeps HD2.out.below _ HI.out) (HK.out.below HD2.out.below)).mono ?_
  rintro e w3 ⟨rfl, hW3, hD3⟩
  have HS3 := Lib.hid (OwnX.of (hD3.rest _ _ _ _ HO2.out (by omega) (by decide)))
  have HD3 := Lib.hid (HD2.out.trans hD3)
  have HW3 := Lib.hid hW3
  clear hW3 hD3
  refine hK.out _ _ HS3.out (fun hSw => ?_)
  clear hK K
  try simp only [Act.put, List.setIfInBounds_toArray, List.set_cons_zero, List.set_cons_succ]
  refine wpAnyH_done (by kernel_rfl) ?_ _
  go_end0
  exact ⟨rfl, HW3.out, HD3.out⟩

theorem head_any (a : X) (hE : EX a) (hf : Fine a) (B c : Nat) (l : List UInt8) (d : Int) (w : World) (h : Wr B c l d w) (hBw : B ≤ w.heap.size) (hI : InW w B a) (hK : Knows B w) (hl : l.length + 100 * X.size a ≤ 999999990) (hs : a.txt.length + 40 ≤ 100 * X.size a) :
    Calls Tryd.prog 47 #[.pointer (some ⟨c, 0, none⟩), a.val] w (Wrote B c l (partT (headK a.hd.k) a.txt) d w) := by
  cases hp : pairK a.hd.k with
  | true =>
    rw [show headK a.hd.k = true by simp [headK, hp]]
    exact head_pair a hE hf B c l d w h hBw hI hK hl hs hp
  | false =>
    by_cases h8 : a.hd.k = 8
    · rw [show headK a.hd.k = true by simp [headK, h8]]
      exact head_neg a hE hf B c l d w h hBw hI hK hl hs hp h8
    by_cases h9 : a.hd.k = 9
    · rw [show headK a.hd.k = true by simp [headK, h9]]
      exact head_not a hE hf B c l d w h hBw hI hK hl hs hp h9
    · rw [show headK a.hd.k = false by simp [headK, hp, h8, h9]]
      exact head_else a hE hf B c l d w h hBw hI hK hl hs hp h8 h9
end Go.Proofs.YtflbplljlkpeiaaDoor
