/- Deeds that may fail, and touch registers alone. -/
import Derived.Test.YtijciojipcgiaaaRows
import Derived.Test.YtijciojipcgiaaaWkReg2
import Derived.Test.YtijciojipcgiaaaWkFails
import Derived.Test.YtijciojipcgiaaaWkWord
import Derived.Test.YtijciojipcgiaaaIrSizes
import Derived.Test.YtijciojipcgiaaaIrBoth
import Derived.Test.YtijciojipcgiaaaWkBack
import Derived.LoopTactic
import Derived.LoopN
import Derived.WalkKit
import Derived.WalkSpells
import Derived.WalkLawsBesides
import Derived.Lib.Hide
import Derived.OrdersHeld
import Derived.Deep.RegionHeld
import Derived.Deep.DrawnRows
import Derived.RegionTactic
import Derived.Deep.RegionHeld3
import Derived.IntWalk
namespace Go.Proofs.Ytijciojipcgiaaa
open Go.RowKit
set_option maxRecDepth 100000
attribute [local go_sem ↓] bld_eq bls_eq

set_option maxHeartbeats 8000000 in
theorem notNil_any (ow : Nat → Nat) (w : World) (b j p n : Nat) (g : Gr) (W : WS) (T : TS) (v rs us ts ws : Value) (k o : Int) (aa : Int) (bb : Nat) (cc x : Int) (h1 : WAt ow w b W n v) (h2 : TAt ow w b j p g T rs us ts ws) (hb : bb < T.regs.length) (hok : UOk T.undo T.since W.words.length) (hu : T.undo.length ≤ 1048576) :
    Calls Try.prog 32 #[.pointer (some ⟨p, 0, none⟩), .agg #[.int .u8 k, .int .u8 o, .int .i64 aa, .int .i64 (bb : Int), .int .i64 cc, .int .i64 x]] w (StepE ow b j p g n (if T.reg (bb : Int) = 0 then failT W T 3 else (W, T, false)) w) := by
  obtain ⟨rg, er, hrg, hrl⟩ := h2.regs
  have her := er
  obtain ⟨U, hU⟩ : ∃ U, U = w.alloc (.cells #[.int .u8 k, .int .u8 o, .int .i64 aa, .int .i64 (bb : Int), .int .i64 cc, .int .i64 x] 53) := ⟨_, rfl⟩
  have hBU : Below w.heap.size w U := by rw [hU]; exact below_box w _
  have hzU : U.heap.size = w.heap.size + 1 := by rw [hU]; simp
  have hO : U.heap[w.heap.size]? = some (.cells #[.int .u8 k, .int .u8 o, .int .i64 aa, .int .i64 (bb : Int), .int .i64 cc, .int .i64 x] 53 (0, 0)) := by rw [hU]; exact (MapKept.heap_alloc _ _).1
  have h1U := h1.keeps (But.of (ls := []) hBU) (.refl _ _) (by simp) (by simp)
  have h2U := h2.keeps (But.of (ls := []) hBU) (.refl _ _) (by simp)
  have hlp : p < w.heap.size := heap_lt h2.box
  have hlb : b < w.heap.size := heap_lt h1.box
  have hlr : rg < w.heap.size := heap_lt hrg
  have hrgU := (hBU.block rg hlr).trans hrg
  obtain ⟨d0, d3, d4, d5, d6, d7, d8, d9, d10, d11, d12⟩ := h2U.cells
  obtain ⟨e0, e1, e2⟩ := h1U.cells
  rw [her] at d4
  obtain ⟨i0, i1, i2, i3, i4, i5⟩ := own6 hO
  have fr := fun (q : Nat) => Lib.frozen_of_heap hrgU q
  obtain ⟨NR, hNR⟩ : ∃ N, N = T.regs.length := ⟨_, rfl⟩
  have hbx : bb < NR := by rw [hNR]; exact hb
  obtain ⟨z, hz⟩ : ∃ z, T.regs[bb]? = some z := ⟨_, List.getElem?_eq_getElem hb⟩
  have s1 := wds_cell hrgU bb z hz
  rw [reg_of hz]
  have HF := Lib.hid (fun (e : Int) (u : World) (hb : Below U.heap.size U u) => fails_any ow u b j p n g W T v rs us ts ws e (h1U.keeps (But.of (ls := []) hb) (.refl _ _) (by simp) (by simp)) (h2U.keeps (But.of (ls := []) hb) (.refl _ _) (by simp)) hok hu)
  have H1 := Lib.hid h1U
  have H2 := Lib.hid h2U
  have HB := Lib.hid hBU
  have HU := Lib.hid hU
  have HER := Lib.hid her
  rw [← hNR] at d4
  have HNR := Lib.hid hNR
  clear d3 d5 d6 d7 d8 d9 d10 d11 d12 e0 e1 e2
  clear h1 h2 h1U h2U hBU hO hrg hrgU hrl er her hU hNR hb fr hz hok hu
  by_cases hz0 : z = 0
  · subst hz0
    rw [if_pos rfl]
    go_enter Try.func32, Try.ntmps32
    go_wp2_with fail
    rw [← HU.out]
    refine wp_region_held_drew (S := SameTo (w.heap.size + 1) U) (by kernel_rfl) (SameTo.drew _ _) (fun hSw => ?_)
    refine wpAnyH_take (i := 0) (oi := { dst := some 5, op := Op.move (Operand.tmp 0), type := 63, pos := "deeds.go:52", after := #[], guard := none }) (v := .pointer (some ⟨p, 0, none⟩)) rfl (by kernel_rfl) (by kernel_rfl) (by kernel_rfl) (fun _ _ _ h => h) (Or.inl ⟨by rfl, fun W hW => ?_⟩) hSw ?_
    · first | (go_simp; done) | rfl
    try simp only [Act.put, List.setIfInBounds_toArray, List.set_cons_zero, List.set_cons_succ]
    refine wpAnyH_take (i := 1) (oi := { dst := some 6, op := Op.nilCheck (Operand.tmp 5), type := 0, pos := "deeds.go:52", after := #[{ on := 0, ground := Ground.data }], guard := none }) (v := .pointer (some ⟨p, 0, none⟩)) rfl (by kernel_rfl) (by kernel_rfl) (by kernel_rfl) (fun _ _ _ h => h) (Or.inl ⟨by rfl, fun W hW => ?_⟩) hSw ?_
    · first | (go_simp; done) | rfl
    try simp only [Act.put, List.setIfInBounds_toArray, List.set_cons_zero, List.set_cons_succ]
    refine wpAnyH_take (i := 2) (oi := { dst := some 7, op := Op.fieldAddr 80 (Operand.tmp 6) 2, type := 0, pos := "deeds.go:52", after := #[{ on := 1, ground := Ground.data }], guard := none }) (v := .pointer (some ⟨p, 4, none⟩)) rfl (by kernel_rfl) (by kernel_rfl) (by kernel_rfl) (fun _ _ _ h => h) (Or.inl ⟨by rfl, fun W hW => ?_⟩) hSw ?_
    · first | (go_simp; done) | rfl
    try simp only [Act.put, List.setIfInBounds_toArray, List.set_cons_zero, List.set_cons_succ]
    refine wpAnyH_take (i := 3) (oi := { dst := some 8, op := Op.load 35 (Operand.tmp 7), type := 35, pos := "deeds.go:52", after := #[{ on := 2, ground := Ground.data }], guard := none }) (v := .slice (some ⟨rg, 0, none⟩) NR NR) rfl (by kernel_rfl) (by kernel_rfl) (by kernel_rfl) (fun _ _ _ h => h) (Or.inl ⟨by rfl, fun W hW => ?_⟩) hSw ?_
    · have d4 := hW.cell (by dsimp only; omega) d4
      first | (go_simp; done) | rfl
    try simp only [Act.put, List.setIfInBounds_toArray, List.set_cons_zero, List.set_cons_succ]
    refine wpAnyH_take (i := 4) (oi := { dst := some 9, op := Op.fieldAddr 53 (Operand.tmp 3) 3, type := 0, pos := "deeds.go:52", after := #[], guard := none }) (v := .pointer (some ⟨w.heap.size, 3, none⟩)) rfl (by kernel_rfl) (by kernel_rfl) (by kernel_rfl) (fun _ _ _ h => h) (Or.inl ⟨by rfl, fun W hW => ?_⟩) hSw ?_
    · first | (go_simp; done) | rfl
    try simp only [Act.put, List.setIfInBounds_toArray, List.set_cons_zero, List.set_cons_succ]
    refine wpAnyH_take (i := 5) (oi := { dst := some 10, op := Op.load 3 (Operand.tmp 9), type := 3, pos := "deeds.go:52", after := #[{ on := 4, ground := Ground.data }], guard := none }) (v := .int .i64 (bb : Int)) rfl (by kernel_rfl) (by kernel_rfl) (by kernel_rfl) (fun _ _ _ h => h) (Or.inl ⟨by rfl, fun W hW => ?_⟩) hSw ?_
    · have i3 := hW.cell (by dsimp only; omega) i3
      first | (go_simp; done) | rfl
    try simp only [Act.put, List.setIfInBounds_toArray, List.set_cons_zero, List.set_cons_succ]
    refine wpAnyH_take (i := 6) (oi := { dst := some 11, op := Op.indexAddr 35 (Operand.tmp 8) (Operand.tmp 10), type := 0, pos := "deeds.go:52", after := #[{ on := 3, ground := Ground.data }, { on := 5, ground := Ground.data }], guard := none }) (v := .pointer (some ⟨rg, bb, none⟩)) rfl (by kernel_rfl) (by kernel_rfl) (by kernel_rfl) (fun _ _ _ h => h) (Or.inl ⟨by rfl, fun W hW => ?_⟩) hSw ?_
    · first | (go_simp; done) | rfl
    try simp only [Act.put, List.setIfInBounds_toArray, List.set_cons_zero, List.set_cons_succ]
    refine wpAnyH_take (i := 7) (oi := { dst := some 12, op := Op.load 2 (Operand.tmp 11), type := 2, pos := "deeds.go:52", after := #[{ on := 6, ground := Ground.data }], guard := none }) (v := .int .i64 0) rfl (by kernel_rfl) (by kernel_rfl) (by kernel_rfl) (fun _ _ _ h => h) (Or.inl ⟨by rfl, fun W hW => ?_⟩) hSw ?_
    · have s1 := hW.cell (by dsimp only; omega) s1
      first | (go_simp; done) | rfl
    try simp only [Act.put, List.setIfInBounds_toArray, List.set_cons_zero, List.set_cons_succ]
    refine wpAnyH_take (i := 8) (oi := { dst := some 13, op := Op.binOp BinOp.eql 2 (Operand.tmp 12) (Operand.const (Value.int IntKind.i64 0)) 2, type := 4, pos := "deeds.go:52", after := #[{ on := 7, ground := Ground.data }], guard := none }) (v := .bool true) rfl (by kernel_rfl) (by kernel_rfl) (by kernel_rfl) (fun _ _ _ h => h) (Or.inl ⟨by rfl, fun W hW => ?_⟩) hSw ?_
    · first | (go_simp; done) | rfl
    try simp only [Act.put, List.setIfInBounds_toArray, List.set_cons_zero, List.set_cons_succ]
    refine wpAnyH_done (by kernel_rfl) ?_ _
    go_wp2_with fail
    refine (HF.out 3 U.drew (below_drewN' (Below.refl _ _))).mono ?_; rintro e w2 hE
    obtain ⟨rfl, hR⟩ := (show e = .returned (.bool true) ∧ StepE ow b j p g n (failT W T 3) (U.drew) e w2 from ⟨hE.1, hE⟩)
    have HR := Lib.hid hR
    clear hE hR
    go_wp2_with fail
    go_ret
    exact ((HR.out.from (below_drewN' (Below.refl _ _))).from HB.out)
  · rw [if_neg hz0]
    have hz1 : (z == 0) = false := by simp only [beq_eq_false_iff_ne, ne_eq]; exact hz0
    clear hz0
    go_enter Try.func32, Try.ntmps32
    go_wp2_with fail
    rw [← HU.out]
    refine wp_region_held_drew (S := SameTo (w.heap.size + 1) U) (by kernel_rfl) (SameTo.drew _ _) (fun hSw => ?_)
    refine wpAnyH_take (i := 0) (oi := { dst := some 5, op := Op.move (Operand.tmp 0), type := 63, pos := "deeds.go:52", after := #[], guard := none }) (v := .pointer (some ⟨p, 0, none⟩)) rfl (by kernel_rfl) (by kernel_rfl) (by kernel_rfl) (fun _ _ _ h => h) (Or.inl ⟨by rfl, fun W hW => ?_⟩) hSw ?_
    · first | (go_simp; done) | rfl
    try simp only [Act.put, List.setIfInBounds_toArray, List.set_cons_zero, List.set_cons_succ]
    refine wpAnyH_take (i := 1) (oi := { dst := some 6, op := Op.nilCheck (Operand.tmp 5), type := 0, pos := "deeds.go:52", after := #[{ on := 0, ground := Ground.data }], guard := none }) (v := .pointer (some ⟨p, 0, none⟩)) rfl (by kernel_rfl) (by kernel_rfl) (by kernel_rfl) (fun _ _ _ h => h) (Or.inl ⟨by rfl, fun W hW => ?_⟩) hSw ?_
    · first | (go_simp; done) | rfl
    try simp only [Act.put, List.setIfInBounds_toArray, List.set_cons_zero, List.set_cons_succ]
    refine wpAnyH_take (i := 2) (oi := { dst := some 7, op := Op.fieldAddr 80 (Operand.tmp 6) 2, type := 0, pos := "deeds.go:52", after := #[{ on := 1, ground := Ground.data }], guard := none }) (v := .pointer (some ⟨p, 4, none⟩)) rfl (by kernel_rfl) (by kernel_rfl) (by kernel_rfl) (fun _ _ _ h => h) (Or.inl ⟨by rfl, fun W hW => ?_⟩) hSw ?_
    · first | (go_simp; done) | rfl
    try simp only [Act.put, List.setIfInBounds_toArray, List.set_cons_zero, List.set_cons_succ]
    refine wpAnyH_take (i := 3) (oi := { dst := some 8, op := Op.load 35 (Operand.tmp 7), type := 35, pos := "deeds.go:52", after := #[{ on := 2, ground := Ground.data }], guard := none }) (v := .slice (some ⟨rg, 0, none⟩) NR NR) rfl (by kernel_rfl) (by kernel_rfl) (by kernel_rfl) (fun _ _ _ h => h) (Or.inl ⟨by rfl, fun W hW => ?_⟩) hSw ?_
    · have d4 := hW.cell (by dsimp only; omega) d4
      first | (go_simp; done) | rfl
    try simp only [Act.put, List.setIfInBounds_toArray, List.set_cons_zero, List.set_cons_succ]
    refine wpAnyH_take (i := 4) (oi := { dst := some 9, op := Op.fieldAddr 53 (Operand.tmp 3) 3, type := 0, pos := "deeds.go:52", after := #[], guard := none }) (v := .pointer (some ⟨w.heap.size, 3, none⟩)) rfl (by kernel_rfl) (by kernel_rfl) (by kernel_rfl) (fun _ _ _ h => h) (Or.inl ⟨by rfl, fun W hW => ?_⟩) hSw ?_
    · first | (go_simp; done) | rfl
    try simp only [Act.put, List.setIfInBounds_toArray, List.set_cons_zero, List.set_cons_succ]
    refine wpAnyH_take (i := 5) (oi := { dst := some 10, op := Op.load 3 (Operand.tmp 9), type := 3, pos := "deeds.go:52", after := #[{ on := 4, ground := Ground.data }], guard := none }) (v := .int .i64 (bb : Int)) rfl (by kernel_rfl) (by kernel_rfl) (by kernel_rfl) (fun _ _ _ h => h) (Or.inl ⟨by rfl, fun W hW => ?_⟩) hSw ?_
    · have i3 := hW.cell (by dsimp only; omega) i3
      first | (go_simp; done) | rfl
    try simp only [Act.put, List.setIfInBounds_toArray, List.set_cons_zero, List.set_cons_succ]
    refine wpAnyH_take (i := 6) (oi := { dst := some 11, op := Op.indexAddr 35 (Operand.tmp 8) (Operand.tmp 10), type := 0, pos := "deeds.go:52", after := #[{ on := 3, ground := Ground.data }, { on := 5, ground := Ground.data }], guard := none }) (v := .pointer (some ⟨rg, bb, none⟩)) rfl (by kernel_rfl) (by kernel_rfl) (by kernel_rfl) (fun _ _ _ h => h) (Or.inl ⟨by rfl, fun W hW => ?_⟩) hSw ?_
    · first | (go_simp; done) | rfl
    try simp only [Act.put, List.setIfInBounds_toArray, List.set_cons_zero, List.set_cons_succ]
    refine wpAnyH_take (i := 7) (oi := { dst := some 12, op := Op.load 2 (Operand.tmp 11), type := 2, pos := "deeds.go:52", after := #[{ on := 6, ground := Ground.data }], guard := none }) (v := .int .i64 z) rfl (by kernel_rfl) (by kernel_rfl) (by kernel_rfl) (fun _ _ _ h => h) (Or.inl ⟨by rfl, fun W hW => ?_⟩) hSw ?_
    · have s1 := hW.cell (by dsimp only; omega) s1
      first | (go_simp; done) | rfl
    try simp only [Act.put, List.setIfInBounds_toArray, List.set_cons_zero, List.set_cons_succ]
    refine wpAnyH_take (i := 8) (oi := { dst := some 13, op := Op.binOp BinOp.eql 2 (Operand.tmp 12) (Operand.const (Value.int IntKind.i64 0)) 2, type := 4, pos := "deeds.go:52", after := #[{ on := 7, ground := Ground.data }], guard := none }) (v := .bool false) rfl (by kernel_rfl) (by kernel_rfl) (by kernel_rfl) (fun _ _ _ h => h) (Or.inl ⟨by rfl, fun W hW => ?_⟩) hSw ?_
    · first | (go_simp; done) | rfl
    try simp only [Act.put, List.setIfInBounds_toArray, List.set_cons_zero, List.set_cons_succ]
    refine wpAnyH_done (by kernel_rfl) ?_ _
    go_wp2_with fail
    go_ret
    exact ⟨rfl, ow, v, rs, us, ts, ws, .refl _ _, H1.out.keeps (But.of (ls := []) (below_drewN' (Below.refl _ _))) (.refl _ _) (by simp) (by simp), H2.out.keeps (But.of (ls := []) (below_drewN' (Below.refl _ _))) (.refl _ _) (by simp), (Kp.of HB.out).drew⟩
set_option maxHeartbeats 8000000 in
theorem index_any (ow : Nat → Nat) (w : World) (b j p n : Nat) (g : Gr) (W : WS) (T : TS) (v rs us ts ws : Value) (k o : Int) (aa : Int) (bb : Nat) (cc x : Int) (h1 : WAt ow w b W n v) (h2 : TAt ow w b j p g T rs us ts ws) (hb : bb < T.regs.length) (hok : UOk T.undo T.since W.words.length) (hu : T.undo.length ≤ 1048576) :
    Calls Try.prog 33 #[.pointer (some ⟨p, 0, none⟩), .agg #[.int .u8 k, .int .u8 o, .int .i64 aa, .int .i64 (bb : Int), .int .i64 cc, .int .i64 x]] w (StepE ow b j p g n (if T.reg (bb : Int) < 0 ∨ x ≤ T.reg (bb : Int) then failT W T 4 else (W, T, false)) w) := by
  obtain ⟨rg, er, hrg, hrl⟩ := h2.regs
  have her := er
  obtain ⟨U, hU⟩ : ∃ U, U = w.alloc (.cells #[.int .u8 k, .int .u8 o, .int .i64 aa, .int .i64 (bb : Int), .int .i64 cc, .int .i64 x] 53) := ⟨_, rfl⟩
  have hBU : Below w.heap.size w U := by rw [hU]; exact below_box w _
  have hzU : U.heap.size = w.heap.size + 1 := by rw [hU]; simp
  have hO : U.heap[w.heap.size]? = some (.cells #[.int .u8 k, .int .u8 o, .int .i64 aa, .int .i64 (bb : Int), .int .i64 cc, .int .i64 x] 53 (0, 0)) := by rw [hU]; exact (MapKept.heap_alloc _ _).1
  have h1U := h1.keeps (But.of (ls := []) hBU) (.refl _ _) (by simp) (by simp)
  have h2U := h2.keeps (But.of (ls := []) hBU) (.refl _ _) (by simp)
  have hlp : p < w.heap.size := heap_lt h2.box
  have hlb : b < w.heap.size := heap_lt h1.box
  have hlr : rg < w.heap.size := heap_lt hrg
  have hrgU := (hBU.block rg hlr).trans hrg
  obtain ⟨d0, d3, d4, d5, d6, d7, d8, d9, d10, d11, d12⟩ := h2U.cells
  obtain ⟨e0, e1, e2⟩ := h1U.cells
  rw [her] at d4
  obtain ⟨i0, i1, i2, i3, i4, i5⟩ := own6 hO
  have fr := fun (q : Nat) => Lib.frozen_of_heap hrgU q
  obtain ⟨NR, hNR⟩ : ∃ N, N = T.regs.length := ⟨_, rfl⟩
  have hbx : bb < NR := by rw [hNR]; exact hb
  obtain ⟨z, hz⟩ : ∃ z, T.regs[bb]? = some z := ⟨_, List.getElem?_eq_getElem hb⟩
  have s1 := wds_cell hrgU bb z hz
  rw [reg_of hz]
  have HF := Lib.hid (fun (e : Int) (u : World) (hb : Below U.heap.size U u) => fails_any ow u b j p n g W T v rs us ts ws e (h1U.keeps (But.of (ls := []) hb) (.refl _ _) (by simp) (by simp)) (h2U.keeps (But.of (ls := []) hb) (.refl _ _) (by simp)) hok hu)
  have H1 := Lib.hid h1U
  have H2 := Lib.hid h2U
  have HB := Lib.hid hBU
  have HU := Lib.hid hU
  have HER := Lib.hid her
  rw [← hNR] at d4
  have HNR := Lib.hid hNR
  clear d3 d5 d6 d7 d8 d9 d10 d11 d12 e0 e1 e2
  clear h1 h2 h1U h2U hBU hO hrg hrgU hrl er her hU hNR hb fr hz hok hu
  by_cases hz0 : z < 0
  · rw [if_pos (.inl hz0)]
    go_enter Try.func33, Try.ntmps33
    go_wp2_with fail
    rw [← HU.out]
    refine wp_region_held_drew (S := SameTo (w.heap.size + 1) U) (by kernel_rfl) (SameTo.drew _ _) (fun hSw => ?_)
    refine wpAnyH_take (i := 0) (oi := { dst := some 6, op := Op.move (Operand.tmp 0), type := 63, pos := "deeds.go:59", after := #[], guard := none }) (v := .pointer (some ⟨p, 0, none⟩)) rfl (by kernel_rfl) (by kernel_rfl) (by kernel_rfl) (fun _ _ _ h => h) (Or.inl ⟨by rfl, fun W hW => ?_⟩) hSw ?_
    · first | (go_simp; done) | rfl
    try simp only [Act.put, List.setIfInBounds_toArray, List.set_cons_zero, List.set_cons_succ]
    refine wpAnyH_take (i := 1) (oi := { dst := some 7, op := Op.nilCheck (Operand.tmp 6), type := 0, pos := "deeds.go:59", after := #[{ on := 0, ground := Ground.data }], guard := none }) (v := .pointer (some ⟨p, 0, none⟩)) rfl (by kernel_rfl) (by kernel_rfl) (by kernel_rfl) (fun _ _ _ h => h) (Or.inl ⟨by rfl, fun W hW => ?_⟩) hSw ?_
    · first | (go_simp; done) | rfl
    try simp only [Act.put, List.setIfInBounds_toArray, List.set_cons_zero, List.set_cons_succ]
    refine wpAnyH_take (i := 2) (oi := { dst := some 8, op := Op.fieldAddr 80 (Operand.tmp 7) 2, type := 0, pos := "deeds.go:59", after := #[{ on := 1, ground := Ground.data }], guard := none }) (v := .pointer (some ⟨p, 4, none⟩)) rfl (by kernel_rfl) (by kernel_rfl) (by kernel_rfl) (fun _ _ _ h => h) (Or.inl ⟨by rfl, fun W hW => ?_⟩) hSw ?_
    · first | (go_simp; done) | rfl
    try simp only [Act.put, List.setIfInBounds_toArray, List.set_cons_zero, List.set_cons_succ]
    refine wpAnyH_take (i := 3) (oi := { dst := some 9, op := Op.load 35 (Operand.tmp 8), type := 35, pos := "deeds.go:59", after := #[{ on := 2, ground := Ground.data }], guard := none }) (v := .slice (some ⟨rg, 0, none⟩) NR NR) rfl (by kernel_rfl) (by kernel_rfl) (by kernel_rfl) (fun _ _ _ h => h) (Or.inl ⟨by rfl, fun W hW => ?_⟩) hSw ?_
    · have d4 := hW.cell (by dsimp only; omega) d4
      first | (go_simp; done) | rfl
    try simp only [Act.put, List.setIfInBounds_toArray, List.set_cons_zero, List.set_cons_succ]
    refine wpAnyH_take (i := 4) (oi := { dst := some 10, op := Op.fieldAddr 53 (Operand.tmp 3) 3, type := 0, pos := "deeds.go:59", after := #[], guard := none }) (v := .pointer (some ⟨w.heap.size, 3, none⟩)) rfl (by kernel_rfl) (by kernel_rfl) (by kernel_rfl) (fun _ _ _ h => h) (Or.inl ⟨by rfl, fun W hW => ?_⟩) hSw ?_
    · first | (go_simp; done) | rfl
    try simp only [Act.put, List.setIfInBounds_toArray, List.set_cons_zero, List.set_cons_succ]
    refine wpAnyH_take (i := 5) (oi := { dst := some 11, op := Op.load 3 (Operand.tmp 10), type := 3, pos := "deeds.go:59", after := #[{ on := 4, ground := Ground.data }], guard := none }) (v := .int .i64 (bb : Int)) rfl (by kernel_rfl) (by kernel_rfl) (by kernel_rfl) (fun _ _ _ h => h) (Or.inl ⟨by rfl, fun W hW => ?_⟩) hSw ?_
    · have i3 := hW.cell (by dsimp only; omega) i3
      first | (go_simp; done) | rfl
    try simp only [Act.put, List.setIfInBounds_toArray, List.set_cons_zero, List.set_cons_succ]
    refine wpAnyH_take (i := 6) (oi := { dst := some 12, op := Op.indexAddr 35 (Operand.tmp 9) (Operand.tmp 11), type := 0, pos := "deeds.go:59", after := #[{ on := 3, ground := Ground.data }, { on := 5, ground := Ground.data }], guard := none }) (v := .pointer (some ⟨rg, bb, none⟩)) rfl (by kernel_rfl) (by kernel_rfl) (by kernel_rfl) (fun _ _ _ h => h) (Or.inl ⟨by rfl, fun W hW => ?_⟩) hSw ?_
    · first | (go_simp; done) | rfl
    try simp only [Act.put, List.setIfInBounds_toArray, List.set_cons_zero, List.set_cons_succ]
    refine wpAnyH_take (i := 7) (oi := { dst := some 13, op := Op.load 2 (Operand.tmp 12), type := 2, pos := "deeds.go:59", after := #[{ on := 6, ground := Ground.data }], guard := none }) (v := .int .i64 z) rfl (by kernel_rfl) (by kernel_rfl) (by kernel_rfl) (fun _ _ _ h => h) (Or.inl ⟨by rfl, fun W hW => ?_⟩) hSw ?_
    · have s1 := hW.cell (by dsimp only; omega) s1
      first | (go_simp; done) | rfl
    try simp only [Act.put, List.setIfInBounds_toArray, List.set_cons_zero, List.set_cons_succ]
    refine wpAnyH_take (i := 8) (oi := { dst := some 5, op := Op.assign (Operand.tmp 13), type := 2, pos := "deeds.go:59", after := #[{ on := 7, ground := Ground.data }, { on := 0, ground := Ground.phase }, { on := 1, ground := Ground.phase }, { on := 2, ground := Ground.phase }, { on := 3, ground := Ground.phase }, { on := 4, ground := Ground.phase }, { on := 5, ground := Ground.phase }, { on := 6, ground := Ground.phase }, { on := 7, ground := Ground.phase }], guard := none }) (v := .int .i64 z) rfl (by kernel_rfl) (by kernel_rfl) (by kernel_rfl) (fun _ _ _ h => h) (Or.inl ⟨by rfl, fun W hW => ?_⟩) hSw ?_
    · first | (go_simp; done) | rfl
    try simp only [Act.put, List.setIfInBounds_toArray, List.set_cons_zero, List.set_cons_succ]
    refine wpAnyH_done (by kernel_rfl) ?_ _
    go_wp2_with fail
    refine (HF.out 4 U.drew (below_drewN' (Below.refl _ _))).mono ?_; rintro e w2 hE
    obtain ⟨rfl, hR⟩ := (show e = .returned (.bool true) ∧ StepE ow b j p g n (failT W T 4) (U.drew) e w2 from ⟨hE.1, hE⟩)
    have HR := Lib.hid hR
    clear hE hR
    go_wp2_with fail
    go_ret
    exact ((HR.out.from (below_drewN' (Below.refl _ _))).from HB.out)
  by_cases hz1 : x ≤ z
  · rw [if_pos (.inr hz1)]
    go_enter Try.func33, Try.ntmps33
    go_wp2_with fail
    rw [← HU.out]
    refine wp_region_held_drew (S := SameTo (w.heap.size + 1) U) (by kernel_rfl) (SameTo.drew _ _) (fun hSw => ?_)
    refine wpAnyH_take (i := 0) (oi := { dst := some 6, op := Op.move (Operand.tmp 0), type := 63, pos := "deeds.go:59", after := #[], guard := none }) (v := .pointer (some ⟨p, 0, none⟩)) rfl (by kernel_rfl) (by kernel_rfl) (by kernel_rfl) (fun _ _ _ h => h) (Or.inl ⟨by rfl, fun W hW => ?_⟩) hSw ?_
    · first | (go_simp; done) | rfl
    try simp only [Act.put, List.setIfInBounds_toArray, List.set_cons_zero, List.set_cons_succ]
    refine wpAnyH_take (i := 1) (oi := { dst := some 7, op := Op.nilCheck (Operand.tmp 6), type := 0, pos := "deeds.go:59", after := #[{ on := 0, ground := Ground.data }], guard := none }) (v := .pointer (some ⟨p, 0, none⟩)) rfl (by kernel_rfl) (by kernel_rfl) (by kernel_rfl) (fun _ _ _ h => h) (Or.inl ⟨by rfl, fun W hW => ?_⟩) hSw ?_
    · first | (go_simp; done) | rfl
    try simp only [Act.put, List.setIfInBounds_toArray, List.set_cons_zero, List.set_cons_succ]
    refine wpAnyH_take (i := 2) (oi := { dst := some 8, op := Op.fieldAddr 80 (Operand.tmp 7) 2, type := 0, pos := "deeds.go:59", after := #[{ on := 1, ground := Ground.data }], guard := none }) (v := .pointer (some ⟨p, 4, none⟩)) rfl (by kernel_rfl) (by kernel_rfl) (by kernel_rfl) (fun _ _ _ h => h) (Or.inl ⟨by rfl, fun W hW => ?_⟩) hSw ?_
    · first | (go_simp; done) | rfl
    try simp only [Act.put, List.setIfInBounds_toArray, List.set_cons_zero, List.set_cons_succ]
    refine wpAnyH_take (i := 3) (oi := { dst := some 9, op := Op.load 35 (Operand.tmp 8), type := 35, pos := "deeds.go:59", after := #[{ on := 2, ground := Ground.data }], guard := none }) (v := .slice (some ⟨rg, 0, none⟩) NR NR) rfl (by kernel_rfl) (by kernel_rfl) (by kernel_rfl) (fun _ _ _ h => h) (Or.inl ⟨by rfl, fun W hW => ?_⟩) hSw ?_
    · have d4 := hW.cell (by dsimp only; omega) d4
      first | (go_simp; done) | rfl
    try simp only [Act.put, List.setIfInBounds_toArray, List.set_cons_zero, List.set_cons_succ]
    refine wpAnyH_take (i := 4) (oi := { dst := some 10, op := Op.fieldAddr 53 (Operand.tmp 3) 3, type := 0, pos := "deeds.go:59", after := #[], guard := none }) (v := .pointer (some ⟨w.heap.size, 3, none⟩)) rfl (by kernel_rfl) (by kernel_rfl) (by kernel_rfl) (fun _ _ _ h => h) (Or.inl ⟨by rfl, fun W hW => ?_⟩) hSw ?_
    · first | (go_simp; done) | rfl
    try simp only [Act.put, List.setIfInBounds_toArray, List.set_cons_zero, List.set_cons_succ]
    refine wpAnyH_take (i := 5) (oi := { dst := some 11, op := Op.load 3 (Operand.tmp 10), type := 3, pos := "deeds.go:59", after := #[{ on := 4, ground := Ground.data }], guard := none }) (v := .int .i64 (bb : Int)) rfl (by kernel_rfl) (by kernel_rfl) (by kernel_rfl) (fun _ _ _ h => h) (Or.inl ⟨by rfl, fun W hW => ?_⟩) hSw ?_
    · have i3 := hW.cell (by dsimp only; omega) i3
      first | (go_simp; done) | rfl
    try simp only [Act.put, List.setIfInBounds_toArray, List.set_cons_zero, List.set_cons_succ]
    refine wpAnyH_take (i := 6) (oi := { dst := some 12, op := Op.indexAddr 35 (Operand.tmp 9) (Operand.tmp 11), type := 0, pos := "deeds.go:59", after := #[{ on := 3, ground := Ground.data }, { on := 5, ground := Ground.data }], guard := none }) (v := .pointer (some ⟨rg, bb, none⟩)) rfl (by kernel_rfl) (by kernel_rfl) (by kernel_rfl) (fun _ _ _ h => h) (Or.inl ⟨by rfl, fun W hW => ?_⟩) hSw ?_
    · first | (go_simp; done) | rfl
    try simp only [Act.put, List.setIfInBounds_toArray, List.set_cons_zero, List.set_cons_succ]
    refine wpAnyH_take (i := 7) (oi := { dst := some 13, op := Op.load 2 (Operand.tmp 12), type := 2, pos := "deeds.go:59", after := #[{ on := 6, ground := Ground.data }], guard := none }) (v := .int .i64 z) rfl (by kernel_rfl) (by kernel_rfl) (by kernel_rfl) (fun _ _ _ h => h) (Or.inl ⟨by rfl, fun W hW => ?_⟩) hSw ?_
    · have s1 := hW.cell (by dsimp only; omega) s1
      first | (go_simp; done) | rfl
    try simp only [Act.put, List.setIfInBounds_toArray, List.set_cons_zero, List.set_cons_succ]
    refine wpAnyH_take (i := 8) (oi := { dst := some 5, op := Op.assign (Operand.tmp 13), type := 2, pos := "deeds.go:59", after := #[{ on := 7, ground := Ground.data }, { on := 0, ground := Ground.phase }, { on := 1, ground := Ground.phase }, { on := 2, ground := Ground.phase }, { on := 3, ground := Ground.phase }, { on := 4, ground := Ground.phase }, { on := 5, ground := Ground.phase }, { on := 6, ground := Ground.phase }, { on := 7, ground := Ground.phase }], guard := none }) (v := .int .i64 z) rfl (by kernel_rfl) (by kernel_rfl) (by kernel_rfl) (fun _ _ _ h => h) (Or.inl ⟨by rfl, fun W hW => ?_⟩) hSw ?_
    · first | (go_simp; done) | rfl
    try simp only [Act.put, List.setIfInBounds_toArray, List.set_cons_zero, List.set_cons_succ]
    refine wpAnyH_done (by kernel_rfl) ?_ _
    go_wp2_with fail
    refine (HF.out 4 U.drew (below_drewN' (Below.refl _ _))).mono ?_; rintro e w2 hE
    obtain ⟨rfl, hR⟩ := (show e = .returned (.bool true) ∧ StepE ow b j p g n (failT W T 4) (U.drew) e w2 from ⟨hE.1, hE⟩)
    have HR := Lib.hid hR
    clear hE hR
    go_wp2_with fail
    go_ret
    exact ((HR.out.from (below_drewN' (Below.refl _ _))).from HB.out)
  · rw [if_neg (by omega)]
    go_enter Try.func33, Try.ntmps33
    go_wp2_with fail
    rw [← HU.out]
    refine wp_region_held_drew (S := SameTo (w.heap.size + 1) U) (by kernel_rfl) (SameTo.drew _ _) (fun hSw => ?_)
    refine wpAnyH_take (i := 0) (oi := { dst := some 6, op := Op.move (Operand.tmp 0), type := 63, pos := "deeds.go:59", after := #[], guard := none }) (v := .pointer (some ⟨p, 0, none⟩)) rfl (by kernel_rfl) (by kernel_rfl) (by kernel_rfl) (fun _ _ _ h => h) (Or.inl ⟨by rfl, fun W hW => ?_⟩) hSw ?_
    · first | (go_simp; done) | rfl
    try simp only [Act.put, List.setIfInBounds_toArray, List.set_cons_zero, List.set_cons_succ]
    refine wpAnyH_take (i := 1) (oi := { dst := some 7, op := Op.nilCheck (Operand.tmp 6), type := 0, pos := "deeds.go:59", after := #[{ on := 0, ground := Ground.data }], guard := none }) (v := .pointer (some ⟨p, 0, none⟩)) rfl (by kernel_rfl) (by kernel_rfl) (by kernel_rfl) (fun _ _ _ h => h) (Or.inl ⟨by rfl, fun W hW => ?_⟩) hSw ?_
    · first | (go_simp; done) | rfl
    try simp only [Act.put, List.setIfInBounds_toArray, List.set_cons_zero, List.set_cons_succ]
    refine wpAnyH_take (i := 2) (oi := { dst := some 8, op := Op.fieldAddr 80 (Operand.tmp 7) 2, type := 0, pos := "deeds.go:59", after := #[{ on := 1, ground := Ground.data }], guard := none }) (v := .pointer (some ⟨p, 4, none⟩)) rfl (by kernel_rfl) (by kernel_rfl) (by kernel_rfl) (fun _ _ _ h => h) (Or.inl ⟨by rfl, fun W hW => ?_⟩) hSw ?_
    · first | (go_simp; done) | rfl
    try simp only [Act.put, List.setIfInBounds_toArray, List.set_cons_zero, List.set_cons_succ]
    refine wpAnyH_take (i := 3) (oi := { dst := some 9, op := Op.load 35 (Operand.tmp 8), type := 35, pos := "deeds.go:59", after := #[{ on := 2, ground := Ground.data }], guard := none }) (v := .slice (some ⟨rg, 0, none⟩) NR NR) rfl (by kernel_rfl) (by kernel_rfl) (by kernel_rfl) (fun _ _ _ h => h) (Or.inl ⟨by rfl, fun W hW => ?_⟩) hSw ?_
    · have d4 := hW.cell (by dsimp only; omega) d4
      first | (go_simp; done) | rfl
    try simp only [Act.put, List.setIfInBounds_toArray, List.set_cons_zero, List.set_cons_succ]
    refine wpAnyH_take (i := 4) (oi := { dst := some 10, op := Op.fieldAddr 53 (Operand.tmp 3) 3, type := 0, pos := "deeds.go:59", after := #[], guard := none }) (v := .pointer (some ⟨w.heap.size, 3, none⟩)) rfl (by kernel_rfl) (by kernel_rfl) (by kernel_rfl) (fun _ _ _ h => h) (Or.inl ⟨by rfl, fun W hW => ?_⟩) hSw ?_
    · first | (go_simp; done) | rfl
    try simp only [Act.put, List.setIfInBounds_toArray, List.set_cons_zero, List.set_cons_succ]
    refine wpAnyH_take (i := 5) (oi := { dst := some 11, op := Op.load 3 (Operand.tmp 10), type := 3, pos := "deeds.go:59", after := #[{ on := 4, ground := Ground.data }], guard := none }) (v := .int .i64 (bb : Int)) rfl (by kernel_rfl) (by kernel_rfl) (by kernel_rfl) (fun _ _ _ h => h) (Or.inl ⟨by rfl, fun W hW => ?_⟩) hSw ?_
    · have i3 := hW.cell (by dsimp only; omega) i3
      first | (go_simp; done) | rfl
    try simp only [Act.put, List.setIfInBounds_toArray, List.set_cons_zero, List.set_cons_succ]
    refine wpAnyH_take (i := 6) (oi := { dst := some 12, op := Op.indexAddr 35 (Operand.tmp 9) (Operand.tmp 11), type := 0, pos := "deeds.go:59", after := #[{ on := 3, ground := Ground.data }, { on := 5, ground := Ground.data }], guard := none }) (v := .pointer (some ⟨rg, bb, none⟩)) rfl (by kernel_rfl) (by kernel_rfl) (by kernel_rfl) (fun _ _ _ h => h) (Or.inl ⟨by rfl, fun W hW => ?_⟩) hSw ?_
    · first | (go_simp; done) | rfl
    try simp only [Act.put, List.setIfInBounds_toArray, List.set_cons_zero, List.set_cons_succ]
    refine wpAnyH_take (i := 7) (oi := { dst := some 13, op := Op.load 2 (Operand.tmp 12), type := 2, pos := "deeds.go:59", after := #[{ on := 6, ground := Ground.data }], guard := none }) (v := .int .i64 z) rfl (by kernel_rfl) (by kernel_rfl) (by kernel_rfl) (fun _ _ _ h => h) (Or.inl ⟨by rfl, fun W hW => ?_⟩) hSw ?_
    · have s1 := hW.cell (by dsimp only; omega) s1
      first | (go_simp; done) | rfl
    try simp only [Act.put, List.setIfInBounds_toArray, List.set_cons_zero, List.set_cons_succ]
    refine wpAnyH_take (i := 8) (oi := { dst := some 5, op := Op.assign (Operand.tmp 13), type := 2, pos := "deeds.go:59", after := #[{ on := 7, ground := Ground.data }, { on := 0, ground := Ground.phase }, { on := 1, ground := Ground.phase }, { on := 2, ground := Ground.phase }, { on := 3, ground := Ground.phase }, { on := 4, ground := Ground.phase }, { on := 5, ground := Ground.phase }, { on := 6, ground := Ground.phase }, { on := 7, ground := Ground.phase }], guard := none }) (v := .int .i64 z) rfl (by kernel_rfl) (by kernel_rfl) (by kernel_rfl) (fun _ _ _ h => h) (Or.inl ⟨by rfl, fun W hW => ?_⟩) hSw ?_
    · first | (go_simp; done) | rfl
    try simp only [Act.put, List.setIfInBounds_toArray, List.set_cons_zero, List.set_cons_succ]
    refine wpAnyH_done (by kernel_rfl) ?_ _
    go_wp2_with fail
    go_ret
    exact ⟨rfl, ow, v, rs, us, ts, ws, .refl _ _, H1.out.keeps (But.of (ls := []) (below_drewN' (Below.refl _ _))) (.refl _ _) (by simp) (by simp), H2.out.keeps (But.of (ls := []) (below_drewN' (Below.refl _ _))) (.refl _ _) (by simp), (Kp.of HB.out).drew⟩
set_option maxHeartbeats 8000000 in
theorem wcalc_any (ow : Nat → Nat) (w : World) (b j p n : Nat) (g : Gr) (W : WS) (T : TS) (v rs us ts ws : Value) (k o : Int) (a bb cc : Nat) (x : Int) (h1 : WAt ow w b W n v) (h2 : TAt ow w b j p g T rs us ts ws) (ha : a < T.regs.length) (hb : bb < T.regs.length) (hc : cc < T.regs.length) (hok : UOk T.undo T.since W.words.length) (hu : T.undo.length ≤ 1048576) :
    Calls Try.prog 31 #[.pointer (some ⟨p, 0, none⟩), .agg #[.int .u8 k, .int .u8 o, .int .i64 (a : Int), .int .i64 (bb : Int), .int .i64 (cc : Int), .int .i64 x]] w (StepE ow b j p g n (if doE o (T.reg (cc : Int)) = 0 then (W, T.setR (a : Int) (doN o (T.reg (bb : Int)) (T.reg (cc : Int))), false) else failT W T 2) w) := by
  obtain ⟨rg, er, hrg, hrl⟩ := h2.regs
  have her := er
  obtain ⟨U, hU⟩ : ∃ U, U = w.alloc (.cells #[.int .u8 k, .int .u8 o, .int .i64 (a : Int), .int .i64 (bb : Int), .int .i64 (cc : Int), .int .i64 x] 53) := ⟨_, rfl⟩
  have hBU : Below w.heap.size w U := by rw [hU]; exact below_box w _
  have hzU : U.heap.size = w.heap.size + 1 := by rw [hU]; simp
  have hO : U.heap[w.heap.size]? = some (.cells #[.int .u8 k, .int .u8 o, .int .i64 (a : Int), .int .i64 (bb : Int), .int .i64 (cc : Int), .int .i64 x] 53 (0, 0)) := by rw [hU]; exact (MapKept.heap_alloc _ _).1
  have h1U := h1.keeps (But.of (ls := []) hBU) (.refl _ _) (by simp) (by simp)
  have h2U := h2.keeps (But.of (ls := []) hBU) (.refl _ _) (by simp)
  have hlp : p < w.heap.size := heap_lt h2.box
  have hlb : b < w.heap.size := heap_lt h1.box
  have hlr : rg < w.heap.size := heap_lt hrg
  have hrgU := (hBU.block rg hlr).trans hrg
  obtain ⟨d0, d3, d4, d5, d6, d7, d8, d9, d10, d11, d12⟩ := h2U.cells
  obtain ⟨e0, e1, e2⟩ := h1U.cells
  rw [her] at d4
  obtain ⟨i0, i1, i2, i3, i4, i5⟩ := own6 hO
  have fr := fun (q : Nat) => Lib.frozen_of_heap hrgU q
  obtain ⟨NR, hNR⟩ : ∃ N, N = T.regs.length := ⟨_, rfl⟩
  have hax : a < NR := by rw [hNR]; exact ha
  have hbx : bb < NR := by rw [hNR]; exact hb
  have hcx : cc < NR := by rw [hNR]; exact hc
  have f0 := fr a
  obtain ⟨y, hy⟩ : ∃ y, T.regs[a]? = some y := ⟨_, List.getElem?_eq_getElem ha⟩
  obtain ⟨z, hz⟩ : ∃ z, T.regs[bb]? = some z := ⟨_, List.getElem?_eq_getElem hb⟩
  obtain ⟨z2, hz2⟩ : ∃ z, T.regs[cc]? = some z := ⟨_, List.getElem?_eq_getElem hc⟩
  have s0 := wds_cell hrgU a y hy
  have s1 := wds_cell hrgU bb z hz
  have s2 := wds_cell hrgU cc z2 hz2
  rw [reg_of hz, reg_of hz2]
  obtain ⟨D, hD⟩ : ∃ D, D = doN o z z2 := ⟨_, rfl⟩
  obtain ⟨E, hE⟩ : ∃ E, E = doE o z2 := ⟨_, rfl⟩
  have HC := Lib.hid (fun (u : World) => code_any o z z2 u)
  rw [← hD, ← hE] at HC ⊢
  have HF := Lib.hid (fun (e : Int) (u : World) (hb : Below U.heap.size U u) => fails_any ow u b j p n g W T v rs us ts ws e (h1U.keeps (But.of (ls := []) hb) (.refl _ _) (by simp) (by simp)) (h2U.keeps (But.of (ls := []) hb) (.refl _ _) (by simp)) hok hu)
  have H1 := Lib.hid h1U
  have H2 := Lib.hid h2U
  have HB := Lib.hid hBU
  have HU := Lib.hid hU
  have HER := Lib.hid her
  rw [← hNR] at d4
  have HNR := Lib.hid hNR
  clear d3 d5 d6 d7 d8 d9 d10 d11 d12 e0 e1 e2
  clear h1 h2 h1U h2U hBU hO hrg hrgU hrl er her hU hNR ha hb hc fr hy hz hz2 hD hE hok hu
  by_cases hE0 : E = 0
  · subst hE0
    rw [if_pos rfl]
    go_enter Try.func31, Try.ntmps31
    go_wp2_with fail
    rw [← HU.out]
    refine wp_region_held_drew (S := SameTo (w.heap.size + 1) U) (by kernel_rfl) (SameTo.drew _ _) (fun hSw => ?_)
    refine wpAnyH_take (i := 0) (oi := { dst := some 8, op := Op.fieldAddr 53 (Operand.tmp 3) 1, type := 0, pos := "deeds.go:43", after := #[], guard := none }) (v := .pointer (some ⟨w.heap.size, 1, none⟩)) rfl (by kernel_rfl) (by kernel_rfl) (by kernel_rfl) (fun _ _ _ h => h) (Or.inl ⟨by rfl, fun W hW => ?_⟩) hSw ?_
    · first | (go_simp; done) | rfl
    try simp only [Act.put, List.setIfInBounds_toArray, List.set_cons_zero, List.set_cons_succ]
    refine wpAnyH_take (i := 1) (oi := { dst := some 9, op := Op.load 51 (Operand.tmp 8), type := 51, pos := "deeds.go:43", after := #[{ on := 0, ground := Ground.data }], guard := none }) (v := .int .u8 o) rfl (by kernel_rfl) (by kernel_rfl) (by kernel_rfl) (fun _ _ _ h => h) (Or.inl ⟨by rfl, fun W hW => ?_⟩) hSw ?_
    · have i1 := hW.cell (by dsimp only; omega) i1
      first | (go_simp; done) | rfl
    try simp only [Act.put, List.setIfInBounds_toArray, List.set_cons_zero, List.set_cons_succ]
    refine wpAnyH_take (i := 2) (oi := { dst := some 10, op := Op.move (Operand.tmp 0), type := 63, pos := "deeds.go:43", after := #[], guard := none }) (v := .pointer (some ⟨p, 0, none⟩)) rfl (by kernel_rfl) (by kernel_rfl) (by kernel_rfl) (fun _ _ _ h => h) (Or.inl ⟨by rfl, fun W hW => ?_⟩) hSw ?_
    · first | (go_simp; done) | rfl
    try simp only [Act.put, List.setIfInBounds_toArray, List.set_cons_zero, List.set_cons_succ]
    refine wpAnyH_take (i := 3) (oi := { dst := some 11, op := Op.nilCheck (Operand.tmp 10), type := 0, pos := "deeds.go:43", after := #[{ on := 2, ground := Ground.data }], guard := none }) (v := .pointer (some ⟨p, 0, none⟩)) rfl (by kernel_rfl) (by kernel_rfl) (by kernel_rfl) (fun _ _ _ h => h) (Or.inl ⟨by rfl, fun W hW => ?_⟩) hSw ?_
    · first | (go_simp; done) | rfl
    try simp only [Act.put, List.setIfInBounds_toArray, List.set_cons_zero, List.set_cons_succ]
    refine wpAnyH_take (i := 4) (oi := { dst := some 12, op := Op.fieldAddr 80 (Operand.tmp 11) 2, type := 0, pos := "deeds.go:43", after := #[{ on := 3, ground := Ground.data }], guard := none }) (v := .pointer (some ⟨p, 4, none⟩)) rfl (by kernel_rfl) (by kernel_rfl) (by kernel_rfl) (fun _ _ _ h => h) (Or.inl ⟨by rfl, fun W hW => ?_⟩) hSw ?_
    · first | (go_simp; done) | rfl
    try simp only [Act.put, List.setIfInBounds_toArray, List.set_cons_zero, List.set_cons_succ]
    refine wpAnyH_take (i := 5) (oi := { dst := some 13, op := Op.load 35 (Operand.tmp 12), type := 35, pos := "deeds.go:43", after := #[{ on := 4, ground := Ground.data }], guard := none }) (v := .slice (some ⟨rg, 0, none⟩) NR NR) rfl (by kernel_rfl) (by kernel_rfl) (by kernel_rfl) (fun _ _ _ h => h) (Or.inl ⟨by rfl, fun W hW => ?_⟩) hSw ?_
    · have d4 := hW.cell (by dsimp only; omega) d4
      first | (go_simp; done) | rfl
    try simp only [Act.put, List.setIfInBounds_toArray, List.set_cons_zero, List.set_cons_succ]
    refine wpAnyH_take (i := 6) (oi := { dst := some 14, op := Op.fieldAddr 53 (Operand.tmp 3) 3, type := 0, pos := "deeds.go:43", after := #[], guard := none }) (v := .pointer (some ⟨w.heap.size, 3, none⟩)) rfl (by kernel_rfl) (by kernel_rfl) (by kernel_rfl) (fun _ _ _ h => h) (Or.inl ⟨by rfl, fun W hW => ?_⟩) hSw ?_
    · first | (go_simp; done) | rfl
    try simp only [Act.put, List.setIfInBounds_toArray, List.set_cons_zero, List.set_cons_succ]
    refine wpAnyH_take (i := 7) (oi := { dst := some 15, op := Op.load 3 (Operand.tmp 14), type := 3, pos := "deeds.go:43", after := #[{ on := 6, ground := Ground.data }], guard := none }) (v := .int .i64 (bb : Int)) rfl (by kernel_rfl) (by kernel_rfl) (by kernel_rfl) (fun _ _ _ h => h) (Or.inl ⟨by rfl, fun W hW => ?_⟩) hSw ?_
    · have i3 := hW.cell (by dsimp only; omega) i3
      first | (go_simp; done) | rfl
    try simp only [Act.put, List.setIfInBounds_toArray, List.set_cons_zero, List.set_cons_succ]
    refine wpAnyH_take (i := 8) (oi := { dst := some 16, op := Op.indexAddr 35 (Operand.tmp 13) (Operand.tmp 15), type := 0, pos := "deeds.go:43", after := #[{ on := 5, ground := Ground.data }, { on := 7, ground := Ground.data }], guard := none }) (v := .pointer (some ⟨rg, bb, none⟩)) rfl (by kernel_rfl) (by kernel_rfl) (by kernel_rfl) (fun _ _ _ h => h) (Or.inl ⟨by rfl, fun W hW => ?_⟩) hSw ?_
    · first | (go_simp; done) | rfl
    try simp only [Act.put, List.setIfInBounds_toArray, List.set_cons_zero, List.set_cons_succ]
    refine wpAnyH_take (i := 9) (oi := { dst := some 17, op := Op.load 2 (Operand.tmp 16), type := 2, pos := "deeds.go:43", after := #[{ on := 8, ground := Ground.data }], guard := none }) (v := .int .i64 z) rfl (by kernel_rfl) (by kernel_rfl) (by kernel_rfl) (fun _ _ _ h => h) (Or.inl ⟨by rfl, fun W hW => ?_⟩) hSw ?_
    · have s1 := hW.cell (by dsimp only; omega) s1
      first | (go_simp; done) | rfl
    try simp only [Act.put, List.setIfInBounds_toArray, List.set_cons_zero, List.set_cons_succ]
    refine wpAnyH_take (i := 10) (oi := { dst := some 18, op := Op.move (Operand.tmp 0), type := 63, pos := "deeds.go:43", after := #[], guard := none }) (v := .pointer (some ⟨p, 0, none⟩)) rfl (by kernel_rfl) (by kernel_rfl) (by kernel_rfl) (fun _ _ _ h => h) (Or.inl ⟨by rfl, fun W hW => ?_⟩) hSw ?_
    · first | (go_simp; done) | rfl
    try simp only [Act.put, List.setIfInBounds_toArray, List.set_cons_zero, List.set_cons_succ]
    refine wpAnyH_take (i := 11) (oi := { dst := some 19, op := Op.nilCheck (Operand.tmp 18), type := 0, pos := "deeds.go:43", after := #[{ on := 10, ground := Ground.data }], guard := none }) (v := .pointer (some ⟨p, 0, none⟩)) rfl (by kernel_rfl) (by kernel_rfl) (by kernel_rfl) (fun _ _ _ h => h) (Or.inl ⟨by rfl, fun W hW => ?_⟩) hSw ?_
    · first | (go_simp; done) | rfl
    try simp only [Act.put, List.setIfInBounds_toArray, List.set_cons_zero, List.set_cons_succ]
    refine wpAnyH_take (i := 12) (oi := { dst := some 20, op := Op.fieldAddr 80 (Operand.tmp 19) 2, type := 0, pos := "deeds.go:43", after := #[{ on := 11, ground := Ground.data }], guard := none }) (v := .pointer (some ⟨p, 4, none⟩)) rfl (by kernel_rfl) (by kernel_rfl) (by kernel_rfl) (fun _ _ _ h => h) (Or.inl ⟨by rfl, fun W hW => ?_⟩) hSw ?_
    · first | (go_simp; done) | rfl
    try simp only [Act.put, List.setIfInBounds_toArray, List.set_cons_zero, List.set_cons_succ]
    refine wpAnyH_take (i := 13) (oi := { dst := some 21, op := Op.load 35 (Operand.tmp 20), type := 35, pos := "deeds.go:43", after := #[{ on := 12, ground := Ground.data }], guard := none }) (v := .slice (some ⟨rg, 0, none⟩) NR NR) rfl (by kernel_rfl) (by kernel_rfl) (by kernel_rfl) (fun _ _ _ h => h) (Or.inl ⟨by rfl, fun W hW => ?_⟩) hSw ?_
    · have d4 := hW.cell (by dsimp only; omega) d4
      first | (go_simp; done) | rfl
    try simp only [Act.put, List.setIfInBounds_toArray, List.set_cons_zero, List.set_cons_succ]
    refine wpAnyH_take (i := 14) (oi := { dst := some 22, op := Op.fieldAddr 53 (Operand.tmp 3) 4, type := 0, pos := "deeds.go:43", after := #[], guard := none }) (v := .pointer (some ⟨w.heap.size, 4, none⟩)) rfl (by kernel_rfl) (by kernel_rfl) (by kernel_rfl) (fun _ _ _ h => h) (Or.inl ⟨by rfl, fun W hW => ?_⟩) hSw ?_
    · first | (go_simp; done) | rfl
    try simp only [Act.put, List.setIfInBounds_toArray, List.set_cons_zero, List.set_cons_succ]
    refine wpAnyH_take (i := 15) (oi := { dst := some 23, op := Op.load 3 (Operand.tmp 22), type := 3, pos := "deeds.go:43", after := #[{ on := 14, ground := Ground.data }], guard := none }) (v := .int .i64 (cc : Int)) rfl (by kernel_rfl) (by kernel_rfl) (by kernel_rfl) (fun _ _ _ h => h) (Or.inl ⟨by rfl, fun W hW => ?_⟩) hSw ?_
    · have i4 := hW.cell (by dsimp only; omega) i4
      first | (go_simp; done) | rfl
    try simp only [Act.put, List.setIfInBounds_toArray, List.set_cons_zero, List.set_cons_succ]
    refine wpAnyH_take (i := 16) (oi := { dst := some 24, op := Op.indexAddr 35 (Operand.tmp 21) (Operand.tmp 23), type := 0, pos := "deeds.go:43", after := #[{ on := 13, ground := Ground.data }, { on := 15, ground := Ground.data }], guard := none }) (v := .pointer (some ⟨rg, cc, none⟩)) rfl (by kernel_rfl) (by kernel_rfl) (by kernel_rfl) (fun _ _ _ h => h) (Or.inl ⟨by rfl, fun W hW => ?_⟩) hSw ?_
    · first | (go_simp; done) | rfl
    try simp only [Act.put, List.setIfInBounds_toArray, List.set_cons_zero, List.set_cons_succ]
    refine wpAnyH_take (i := 17) (oi := { dst := some 25, op := Op.load 2 (Operand.tmp 24), type := 2, pos := "deeds.go:43", after := #[{ on := 16, ground := Ground.data }], guard := none }) (v := .int .i64 z2) rfl (by kernel_rfl) (by kernel_rfl) (by kernel_rfl) (fun _ _ _ h => h) (Or.inl ⟨by rfl, fun W hW => ?_⟩) hSw ?_
    · have s2 := hW.cell (by dsimp only; omega) s2
      first | (go_simp; done) | rfl
    try simp only [Act.put, List.setIfInBounds_toArray, List.set_cons_zero, List.set_cons_succ]
    refine wpAnyH_ready (rs := [18]) (by kernel_rfl) (by simp) ?_
    refine AllReadyH.cons (o := { dst := some 26, op := Op.call { callee := Callee.value (Operand.func 52), args := #[Operand.tmp 9, Operand.tmp 17, Operand.tmp 25], argTypes := #[51, 2, 2] }, type := 98, pos := "deeds.go:43", after := #[{ on := 1, ground := Ground.data }, { on := 9, ground := Ground.data }, { on := 17, ground := Ground.data }], guard := none }) rfl (fun K hK => ?_) AllReadyH.nil
    rw [if_pos (by rfl)]
    clear hSw
    go_simp
    refine (HC.out _).mono ?_; rintro e w2 ⟨rfl, rfl⟩
    refine hK.out _ _ (fun _ _ => rfl) (fun hSw => ?_)
    clear hK K
    try simp only [Act.put, List.setIfInBounds_toArray, List.set_cons_zero, List.set_cons_succ]
    refine wpAnyH_take (i := 19) (oi := { dst := some 7, op := Op.move (Operand.tmp 26), type := 98, pos := "deeds.go:43", after := #[{ on := 18, ground := Ground.data }], guard := none }) (v := .tuple #[.int .i64 D, .int .i64 0]) rfl (by kernel_rfl) (by kernel_rfl) (by kernel_rfl) (fun _ _ _ h => h) (Or.inl ⟨by rfl, fun W hW => ?_⟩) hSw ?_
    · first | (go_simp; done) | rfl
    try simp only [Act.put, List.setIfInBounds_toArray, List.set_cons_zero, List.set_cons_succ]
    refine wpAnyH_take (i := 20) (oi := { dst := some 27, op := Op.extract (Operand.tmp 7) 0, type := 2, pos := "deeds.go:43", after := #[{ on := 19, ground := Ground.data }], guard := none }) (v := .int .i64 D) rfl (by kernel_rfl) (by kernel_rfl) (by kernel_rfl) (fun _ _ _ h => h) (Or.inl ⟨by rfl, fun W hW => ?_⟩) hSw ?_
    · first | (go_simp; done) | rfl
    try simp only [Act.put, List.setIfInBounds_toArray, List.set_cons_zero, List.set_cons_succ]
    refine wpAnyH_take (i := 21) (oi := { dst := some 28, op := Op.extract (Operand.tmp 7) 1, type := 31, pos := "deeds.go:43", after := #[{ on := 19, ground := Ground.data }, { on := 22, ground := Ground.gcOnly Departure.lateStores }], guard := none }) (v := .int .i64 0) rfl (by kernel_rfl) (by kernel_rfl) (by kernel_rfl) (fun _ _ _ h => h) (Or.inl ⟨by rfl, fun W hW => ?_⟩) hSw ?_
    · first | (go_simp; done) | rfl
    try simp only [Act.put, List.setIfInBounds_toArray, List.set_cons_zero, List.set_cons_succ]
    refine wpAnyH_take (i := 22) (oi := { dst := some 5, op := Op.assign (Operand.tmp 27), type := 2, pos := "deeds.go:43", after := #[{ on := 20, ground := Ground.data }, { on := 18, ground := Ground.chain }, { on := 0, ground := Ground.phase }, { on := 1, ground := Ground.phase }, { on := 2, ground := Ground.phase }, { on := 3, ground := Ground.phase }, { on := 4, ground := Ground.phase }, { on := 5, ground := Ground.phase }, { on := 6, ground := Ground.phase }, { on := 7, ground := Ground.phase }, { on := 8, ground := Ground.phase }, { on := 9, ground := Ground.phase }, { on := 10, ground := Ground.phase }, { on := 11, ground := Ground.phase }, { on := 12, ground := Ground.phase }, { on := 13, ground := Ground.phase }, { on := 14, ground := Ground.phase }, { on := 15, ground := Ground.phase }, { on := 16, ground := Ground.phase }, { on := 17, ground := Ground.phase }, { on := 18, ground := Ground.phase }, { on := 19, ground := Ground.phase }, { on := 20, ground := Ground.phase }, { on := 21, ground := Ground.textOnly Departure.lateStores }], guard := none }) (v := .int .i64 D) rfl (by kernel_rfl) (by kernel_rfl) (by kernel_rfl) (fun _ _ _ h => h) (Or.inl ⟨by rfl, fun W hW => ?_⟩) hSw ?_
    · first | (go_simp; done) | rfl
    try simp only [Act.put, List.setIfInBounds_toArray, List.set_cons_zero, List.set_cons_succ]
    refine wpAnyH_take (i := 23) (oi := { dst := some 6, op := Op.assign (Operand.tmp 28), type := 31, pos := "deeds.go:43", after := #[{ on := 21, ground := Ground.data }, { on := 22, ground := Ground.chain }, { on := 0, ground := Ground.phase }, { on := 1, ground := Ground.phase }, { on := 2, ground := Ground.phase }, { on := 3, ground := Ground.phase }, { on := 4, ground := Ground.phase }, { on := 5, ground := Ground.phase }, { on := 6, ground := Ground.phase }, { on := 7, ground := Ground.phase }, { on := 8, ground := Ground.phase }, { on := 9, ground := Ground.phase }, { on := 10, ground := Ground.phase }, { on := 11, ground := Ground.phase }, { on := 12, ground := Ground.phase }, { on := 13, ground := Ground.phase }, { on := 14, ground := Ground.phase }, { on := 15, ground := Ground.phase }, { on := 16, ground := Ground.phase }, { on := 17, ground := Ground.phase }, { on := 18, ground := Ground.phase }, { on := 19, ground := Ground.phase }, { on := 20, ground := Ground.phase }, { on := 21, ground := Ground.phase }, { on := 22, ground := Ground.phase }], guard := none }) (v := .int .i64 0) rfl (by kernel_rfl) (by kernel_rfl) (by kernel_rfl) (fun _ _ _ h => h) (Or.inl ⟨by rfl, fun W hW => ?_⟩) hSw ?_
    · first | (go_simp; done) | rfl
    try simp only [Act.put, List.setIfInBounds_toArray, List.set_cons_zero, List.set_cons_succ]
    refine wpAnyH_done (by kernel_rfl) ?_ _
    go_wp2_with fail
    obtain ⟨U2, hU2⟩ : ∃ U2, U2 = U.drew := ⟨_, rfl⟩
    rw [← hU2]
    have i2 : U2.cell? ⟨w.heap.size, 2, none⟩ = some (.int .i64 (a : Int)) := by rw [hU2]; exact i2
    have d4 : U2.cell? ⟨p, 4, none⟩ = some (.slice (some ⟨rg, 0, none⟩) NR NR) := by rw [hU2]; exact d4
    have s0 : U2.cell? ⟨rg, a, none⟩ = some (.int .i64 y) := by rw [hU2]; exact s0
    have f0 : U2.frozen? ⟨rg, a, none⟩ = false := by rw [hU2]; exact f0
    have hz2 : U2.heap.size = w.heap.size + 1 := by rw [hU2]; exact hzU
    have H1' := Lib.hid (show WAt ow U2 b W n v by rw [hU2]; exact H1.out.keeps (But.of (ls := []) (below_drewN' (Below.refl _ _))) (.refl _ _) (by simp) (by simp))
    have H2' := Lib.hid (show TAt ow U2 b j p g T rs us ts ws by rw [hU2]; exact H2.out.keeps (But.of (ls := []) (below_drewN' (Below.refl _ _))) (.refl _ _) (by simp))
    have HB' := Lib.hid (show Below w.heap.size w U2 by rw [hU2]; exact HB.out.drew)
    clear hU2 i0 i1 i3 i4 i5 s1 s2 d0
    refine wp_region_late (S := SameTo (w.heap.size + 1) U2) (fun j => decide (7 ≤ j)) (by kernel_rfl) (SameTo.drew _ _) (fun hSw => ?_)
    refine wpAnyL_take (i := 0) (v := .pointer (some ⟨p, 0, none⟩)) rfl (by kernel_rfl) (by kernel_rfl) (by kernel_rfl) rfl (by kernel_rfl) (fun _ _ _ h => h) (Or.inl ⟨by rfl, fun W hW => ?_⟩) hSw ?_
    · first | (go_simp; done) | rfl
    try simp only [Act.put, List.setIfInBounds_toArray]
    refine wpAnyL_take (i := 1) (v := .pointer (some ⟨p, 0, none⟩)) rfl (by kernel_rfl) (by kernel_rfl) (by kernel_rfl) rfl (by kernel_rfl) (fun _ _ _ h => h) (Or.inl ⟨by rfl, fun W hW => ?_⟩) hSw ?_
    · first | (go_simp; done) | rfl
    try simp only [Act.put]
    refine wpAnyL_take (i := 2) (v := .pointer (some ⟨p, 4, none⟩)) rfl (by kernel_rfl) (by kernel_rfl) (by kernel_rfl) rfl (by kernel_rfl) (fun _ _ _ h => h) (Or.inl ⟨by rfl, fun W hW => ?_⟩) hSw ?_
    · first | (go_simp; done) | rfl
    try simp only [Act.put]
    refine wpAnyL_take (i := 3) (v := .slice (some ⟨rg, 0, none⟩) NR NR) rfl (by kernel_rfl) (by kernel_rfl) (by kernel_rfl) rfl (by kernel_rfl) (fun _ _ _ h => h) (Or.inl ⟨by rfl, fun W hW => ?_⟩) hSw ?_
    · have d4 := hW.cell (by dsimp only; omega) d4
      first | (go_simp; done) | rfl
    try simp only [Act.put]
    refine wpAnyL_take (i := 4) (v := .pointer (some ⟨w.heap.size, 2, none⟩)) rfl (by kernel_rfl) (by kernel_rfl) (by kernel_rfl) rfl (by kernel_rfl) (fun _ _ _ h => h) (Or.inl ⟨by rfl, fun W hW => ?_⟩) hSw ?_
    · first | (go_simp; done) | rfl
    try simp only [Act.put]
    refine wpAnyL_take (i := 5) (v := .int .i64 (a : Int)) rfl (by kernel_rfl) (by kernel_rfl) (by kernel_rfl) rfl (by kernel_rfl) (fun _ _ _ h => h) (Or.inl ⟨by rfl, fun W hW => ?_⟩) hSw ?_
    · have i2 := hW.cell (by dsimp only; omega) i2
      first | (go_simp; done) | rfl
    try simp only [Act.put]
    refine wpAnyL_take (i := 6) (v := .int .i64 D) rfl (by kernel_rfl) (by kernel_rfl) (by kernel_rfl) rfl (by kernel_rfl) (fun _ _ _ h => h) (Or.inl ⟨by rfl, fun W hW => ?_⟩) hSw ?_
    · first | (go_simp; done) | rfl
    try simp only [Act.put]
    refine wpAnyL_only (rs := [7]) (by kernel_rfl) (by simp) (by rfl) ?_
    refine wpAny_one (i := 7) (by kernel_rfl) rfl (fun J hK => ?_)
    rw [if_pos (by rfl)]
    go_simp
    refine hK.out _ _ ?_
    clear hK J
    try simp only [Act.put, List.setIfInBounds_toArray, List.set_cons_zero, List.set_cons_succ]
    refine wpAny_one (i := 8) (by kernel_rfl) rfl (fun J hK => ?_)
    rw [if_pos (by rfl)]
    go_simp
    refine hK.out _ _ ?_
    clear hK J
    try simp only [Act.put, List.setIfInBounds_toArray, List.set_cons_zero, List.set_cons_succ]
    refine wpAny_done (by kernel_rfl) ?_ _
    go_wp2_with fail
    go_ret
    exact setR_end HB'.out H1'.out H2'.out HER.out D rfl
  · rw [if_neg hE0]
    have hE1 : (E == 0) = false := by simp only [beq_eq_false_iff_ne, ne_eq]; exact hE0
    clear hE0
    go_enter Try.func31, Try.ntmps31
    go_wp2_with fail
    rw [← HU.out]
    refine wp_region_held_drew (S := SameTo (w.heap.size + 1) U) (by kernel_rfl) (SameTo.drew _ _) (fun hSw => ?_)
    refine wpAnyH_take (i := 0) (oi := { dst := some 8, op := Op.fieldAddr 53 (Operand.tmp 3) 1, type := 0, pos := "deeds.go:43", after := #[], guard := none }) (v := .pointer (some ⟨w.heap.size, 1, none⟩)) rfl (by kernel_rfl) (by kernel_rfl) (by kernel_rfl) (fun _ _ _ h => h) (Or.inl ⟨by rfl, fun W hW => ?_⟩) hSw ?_
    · first | (go_simp; done) | rfl
    try simp only [Act.put, List.setIfInBounds_toArray, List.set_cons_zero, List.set_cons_succ]
    refine wpAnyH_take (i := 1) (oi := { dst := some 9, op := Op.load 51 (Operand.tmp 8), type := 51, pos := "deeds.go:43", after := #[{ on := 0, ground := Ground.data }], guard := none }) (v := .int .u8 o) rfl (by kernel_rfl) (by kernel_rfl) (by kernel_rfl) (fun _ _ _ h => h) (Or.inl ⟨by rfl, fun W hW => ?_⟩) hSw ?_
    · have i1 := hW.cell (by dsimp only; omega) i1
      first | (go_simp; done) | rfl
    try simp only [Act.put, List.setIfInBounds_toArray, List.set_cons_zero, List.set_cons_succ]
    refine wpAnyH_take (i := 2) (oi := { dst := some 10, op := Op.move (Operand.tmp 0), type := 63, pos := "deeds.go:43", after := #[], guard := none }) (v := .pointer (some ⟨p, 0, none⟩)) rfl (by kernel_rfl) (by kernel_rfl) (by kernel_rfl) (fun _ _ _ h => h) (Or.inl ⟨by rfl, fun W hW => ?_⟩) hSw ?_
    · first | (go_simp; done) | rfl
    try simp only [Act.put, List.setIfInBounds_toArray, List.set_cons_zero, List.set_cons_succ]
    refine wpAnyH_take (i := 3) (oi := { dst := some 11, op := Op.nilCheck (Operand.tmp 10), type := 0, pos := "deeds.go:43", after := #[{ on := 2, ground := Ground.data }], guard := none }) (v := .pointer (some ⟨p, 0, none⟩)) rfl (by kernel_rfl) (by kernel_rfl) (by kernel_rfl) (fun _ _ _ h => h) (Or.inl ⟨by rfl, fun W hW => ?_⟩) hSw ?_
    · first | (go_simp; done) | rfl
    try simp only [Act.put, List.setIfInBounds_toArray, List.set_cons_zero, List.set_cons_succ]
    refine wpAnyH_take (i := 4) (oi := { dst := some 12, op := Op.fieldAddr 80 (Operand.tmp 11) 2, type := 0, pos := "deeds.go:43", after := #[{ on := 3, ground := Ground.data }], guard := none }) (v := .pointer (some ⟨p, 4, none⟩)) rfl (by kernel_rfl) (by kernel_rfl) (by kernel_rfl) (fun _ _ _ h => h) (Or.inl ⟨by rfl, fun W hW => ?_⟩) hSw ?_
    · first | (go_simp; done) | rfl
    try simp only [Act.put, List.setIfInBounds_toArray, List.set_cons_zero, List.set_cons_succ]
    refine wpAnyH_take (i := 5) (oi := { dst := some 13, op := Op.load 35 (Operand.tmp 12), type := 35, pos := "deeds.go:43", after := #[{ on := 4, ground := Ground.data }], guard := none }) (v := .slice (some ⟨rg, 0, none⟩) NR NR) rfl (by kernel_rfl) (by kernel_rfl) (by kernel_rfl) (fun _ _ _ h => h) (Or.inl ⟨by rfl, fun W hW => ?_⟩) hSw ?_
    · have d4 := hW.cell (by dsimp only; omega) d4
      first | (go_simp; done) | rfl
    try simp only [Act.put, List.setIfInBounds_toArray, List.set_cons_zero, List.set_cons_succ]
    refine wpAnyH_take (i := 6) (oi := { dst := some 14, op := Op.fieldAddr 53 (Operand.tmp 3) 3, type := 0, pos := "deeds.go:43", after := #[], guard := none }) (v := .pointer (some ⟨w.heap.size, 3, none⟩)) rfl (by kernel_rfl) (by kernel_rfl) (by kernel_rfl) (fun _ _ _ h => h) (Or.inl ⟨by rfl, fun W hW => ?_⟩) hSw ?_
    · first | (go_simp; done) | rfl
    try simp only [Act.put, List.setIfInBounds_toArray, List.set_cons_zero, List.set_cons_succ]
    refine wpAnyH_take (i := 7) (oi := { dst := some 15, op := Op.load 3 (Operand.tmp 14), type := 3, pos := "deeds.go:43", after := #[{ on := 6, ground := Ground.data }], guard := none }) (v := .int .i64 (bb : Int)) rfl (by kernel_rfl) (by kernel_rfl) (by kernel_rfl) (fun _ _ _ h => h) (Or.inl ⟨by rfl, fun W hW => ?_⟩) hSw ?_
    · have i3 := hW.cell (by dsimp only; omega) i3
      first | (go_simp; done) | rfl
    try simp only [Act.put, List.setIfInBounds_toArray, List.set_cons_zero, List.set_cons_succ]
    refine wpAnyH_take (i := 8) (oi := { dst := some 16, op := Op.indexAddr 35 (Operand.tmp 13) (Operand.tmp 15), type := 0, pos := "deeds.go:43", after := #[{ on := 5, ground := Ground.data }, { on := 7, ground := Ground.data }], guard := none }) (v := .pointer (some ⟨rg, bb, none⟩)) rfl (by kernel_rfl) (by kernel_rfl) (by kernel_rfl) (fun _ _ _ h => h) (Or.inl ⟨by rfl, fun W hW => ?_⟩) hSw ?_
    · first | (go_simp; done) | rfl
    try simp only [Act.put, List.setIfInBounds_toArray, List.set_cons_zero, List.set_cons_succ]
    refine wpAnyH_take (i := 9) (oi := { dst := some 17, op := Op.load 2 (Operand.tmp 16), type := 2, pos := "deeds.go:43", after := #[{ on := 8, ground := Ground.data }], guard := none }) (v := .int .i64 z) rfl (by kernel_rfl) (by kernel_rfl) (by kernel_rfl) (fun _ _ _ h => h) (Or.inl ⟨by rfl, fun W hW => ?_⟩) hSw ?_
    · have s1 := hW.cell (by dsimp only; omega) s1
      first | (go_simp; done) | rfl
    try simp only [Act.put, List.setIfInBounds_toArray, List.set_cons_zero, List.set_cons_succ]
    refine wpAnyH_take (i := 10) (oi := { dst := some 18, op := Op.move (Operand.tmp 0), type := 63, pos := "deeds.go:43", after := #[], guard := none }) (v := .pointer (some ⟨p, 0, none⟩)) rfl (by kernel_rfl) (by kernel_rfl) (by kernel_rfl) (fun _ _ _ h => h) (Or.inl ⟨by rfl, fun W hW => ?_⟩) hSw ?_
    · first | (go_simp; done) | rfl
    try simp only [Act.put, List.setIfInBounds_toArray, List.set_cons_zero, List.set_cons_succ]
    refine wpAnyH_take (i := 11) (oi := { dst := some 19, op := Op.nilCheck (Operand.tmp 18), type := 0, pos := "deeds.go:43", after := #[{ on := 10, ground := Ground.data }], guard := none }) (v := .pointer (some ⟨p, 0, none⟩)) rfl (by kernel_rfl) (by kernel_rfl) (by kernel_rfl) (fun _ _ _ h => h) (Or.inl ⟨by rfl, fun W hW => ?_⟩) hSw ?_
    · first | (go_simp; done) | rfl
    try simp only [Act.put, List.setIfInBounds_toArray, List.set_cons_zero, List.set_cons_succ]
    refine wpAnyH_take (i := 12) (oi := { dst := some 20, op := Op.fieldAddr 80 (Operand.tmp 19) 2, type := 0, pos := "deeds.go:43", after := #[{ on := 11, ground := Ground.data }], guard := none }) (v := .pointer (some ⟨p, 4, none⟩)) rfl (by kernel_rfl) (by kernel_rfl) (by kernel_rfl) (fun _ _ _ h => h) (Or.inl ⟨by rfl, fun W hW => ?_⟩) hSw ?_
    · first | (go_simp; done) | rfl
    try simp only [Act.put, List.setIfInBounds_toArray, List.set_cons_zero, List.set_cons_succ]
    refine wpAnyH_take (i := 13) (oi := { dst := some 21, op := Op.load 35 (Operand.tmp 20), type := 35, pos := "deeds.go:43", after := #[{ on := 12, ground := Ground.data }], guard := none }) (v := .slice (some ⟨rg, 0, none⟩) NR NR) rfl (by kernel_rfl) (by kernel_rfl) (by kernel_rfl) (fun _ _ _ h => h) (Or.inl ⟨by rfl, fun W hW => ?_⟩) hSw ?_
    · have d4 := hW.cell (by dsimp only; omega) d4
      first | (go_simp; done) | rfl
    try simp only [Act.put, List.setIfInBounds_toArray, List.set_cons_zero, List.set_cons_succ]
    refine wpAnyH_take (i := 14) (oi := { dst := some 22, op := Op.fieldAddr 53 (Operand.tmp 3) 4, type := 0, pos := "deeds.go:43", after := #[], guard := none }) (v := .pointer (some ⟨w.heap.size, 4, none⟩)) rfl (by kernel_rfl) (by kernel_rfl) (by kernel_rfl) (fun _ _ _ h => h) (Or.inl ⟨by rfl, fun W hW => ?_⟩) hSw ?_
    · first | (go_simp; done) | rfl
    try simp only [Act.put, List.setIfInBounds_toArray, List.set_cons_zero, List.set_cons_succ]
    refine wpAnyH_take (i := 15) (oi := { dst := some 23, op := Op.load 3 (Operand.tmp 22), type := 3, pos := "deeds.go:43", after := #[{ on := 14, ground := Ground.data }], guard := none }) (v := .int .i64 (cc : Int)) rfl (by kernel_rfl) (by kernel_rfl) (by kernel_rfl) (fun _ _ _ h => h) (Or.inl ⟨by rfl, fun W hW => ?_⟩) hSw ?_
    · have i4 := hW.cell (by dsimp only; omega) i4
      first | (go_simp; done) | rfl
    try simp only [Act.put, List.setIfInBounds_toArray, List.set_cons_zero, List.set_cons_succ]
    refine wpAnyH_take (i := 16) (oi := { dst := some 24, op := Op.indexAddr 35 (Operand.tmp 21) (Operand.tmp 23), type := 0, pos := "deeds.go:43", after := #[{ on := 13, ground := Ground.data }, { on := 15, ground := Ground.data }], guard := none }) (v := .pointer (some ⟨rg, cc, none⟩)) rfl (by kernel_rfl) (by kernel_rfl) (by kernel_rfl) (fun _ _ _ h => h) (Or.inl ⟨by rfl, fun W hW => ?_⟩) hSw ?_
    · first | (go_simp; done) | rfl
    try simp only [Act.put, List.setIfInBounds_toArray, List.set_cons_zero, List.set_cons_succ]
    refine wpAnyH_take (i := 17) (oi := { dst := some 25, op := Op.load 2 (Operand.tmp 24), type := 2, pos := "deeds.go:43", after := #[{ on := 16, ground := Ground.data }], guard := none }) (v := .int .i64 z2) rfl (by kernel_rfl) (by kernel_rfl) (by kernel_rfl) (fun _ _ _ h => h) (Or.inl ⟨by rfl, fun W hW => ?_⟩) hSw ?_
    · have s2 := hW.cell (by dsimp only; omega) s2
      first | (go_simp; done) | rfl
    try simp only [Act.put, List.setIfInBounds_toArray, List.set_cons_zero, List.set_cons_succ]
    refine wpAnyH_ready (rs := [18]) (by kernel_rfl) (by simp) ?_
    refine AllReadyH.cons (o := { dst := some 26, op := Op.call { callee := Callee.value (Operand.func 52), args := #[Operand.tmp 9, Operand.tmp 17, Operand.tmp 25], argTypes := #[51, 2, 2] }, type := 98, pos := "deeds.go:43", after := #[{ on := 1, ground := Ground.data }, { on := 9, ground := Ground.data }, { on := 17, ground := Ground.data }], guard := none }) rfl (fun K hK => ?_) AllReadyH.nil
    rw [if_pos (by rfl)]
    clear hSw
    go_simp
    refine (HC.out _).mono ?_; rintro e w2 ⟨rfl, rfl⟩
    refine hK.out _ _ (fun _ _ => rfl) (fun hSw => ?_)
    clear hK K
    try simp only [Act.put, List.setIfInBounds_toArray, List.set_cons_zero, List.set_cons_succ]
    refine wpAnyH_take (i := 19) (oi := { dst := some 7, op := Op.move (Operand.tmp 26), type := 98, pos := "deeds.go:43", after := #[{ on := 18, ground := Ground.data }], guard := none }) (v := .tuple #[.int .i64 D, .int .i64 E]) rfl (by kernel_rfl) (by kernel_rfl) (by kernel_rfl) (fun _ _ _ h => h) (Or.inl ⟨by rfl, fun W hW => ?_⟩) hSw ?_
    · first | (go_simp; done) | rfl
    try simp only [Act.put, List.setIfInBounds_toArray, List.set_cons_zero, List.set_cons_succ]
    refine wpAnyH_take (i := 20) (oi := { dst := some 27, op := Op.extract (Operand.tmp 7) 0, type := 2, pos := "deeds.go:43", after := #[{ on := 19, ground := Ground.data }], guard := none }) (v := .int .i64 D) rfl (by kernel_rfl) (by kernel_rfl) (by kernel_rfl) (fun _ _ _ h => h) (Or.inl ⟨by rfl, fun W hW => ?_⟩) hSw ?_
    · first | (go_simp; done) | rfl
    try simp only [Act.put, List.setIfInBounds_toArray, List.set_cons_zero, List.set_cons_succ]
    refine wpAnyH_take (i := 21) (oi := { dst := some 28, op := Op.extract (Operand.tmp 7) 1, type := 31, pos := "deeds.go:43", after := #[{ on := 19, ground := Ground.data }, { on := 22, ground := Ground.gcOnly Departure.lateStores }], guard := none }) (v := .int .i64 E) rfl (by kernel_rfl) (by kernel_rfl) (by kernel_rfl) (fun _ _ _ h => h) (Or.inl ⟨by rfl, fun W hW => ?_⟩) hSw ?_
    · first | (go_simp; done) | rfl
    try simp only [Act.put, List.setIfInBounds_toArray, List.set_cons_zero, List.set_cons_succ]
    refine wpAnyH_take (i := 22) (oi := { dst := some 5, op := Op.assign (Operand.tmp 27), type := 2, pos := "deeds.go:43", after := #[{ on := 20, ground := Ground.data }, { on := 18, ground := Ground.chain }, { on := 0, ground := Ground.phase }, { on := 1, ground := Ground.phase }, { on := 2, ground := Ground.phase }, { on := 3, ground := Ground.phase }, { on := 4, ground := Ground.phase }, { on := 5, ground := Ground.phase }, { on := 6, ground := Ground.phase }, { on := 7, ground := Ground.phase }, { on := 8, ground := Ground.phase }, { on := 9, ground := Ground.phase }, { on := 10, ground := Ground.phase }, { on := 11, ground := Ground.phase }, { on := 12, ground := Ground.phase }, { on := 13, ground := Ground.phase }, { on := 14, ground := Ground.phase }, { on := 15, ground := Ground.phase }, { on := 16, ground := Ground.phase }, { on := 17, ground := Ground.phase }, { on := 18, ground := Ground.phase }, { on := 19, ground := Ground.phase }, { on := 20, ground := Ground.phase }, { on := 21, ground := Ground.textOnly Departure.lateStores }], guard := none }) (v := .int .i64 D) rfl (by kernel_rfl) (by kernel_rfl) (by kernel_rfl) (fun _ _ _ h => h) (Or.inl ⟨by rfl, fun W hW => ?_⟩) hSw ?_
    · first | (go_simp; done) | rfl
    try simp only [Act.put, List.setIfInBounds_toArray, List.set_cons_zero, List.set_cons_succ]
    refine wpAnyH_take (i := 23) (oi := { dst := some 6, op := Op.assign (Operand.tmp 28), type := 31, pos := "deeds.go:43", after := #[{ on := 21, ground := Ground.data }, { on := 22, ground := Ground.chain }, { on := 0, ground := Ground.phase }, { on := 1, ground := Ground.phase }, { on := 2, ground := Ground.phase }, { on := 3, ground := Ground.phase }, { on := 4, ground := Ground.phase }, { on := 5, ground := Ground.phase }, { on := 6, ground := Ground.phase }, { on := 7, ground := Ground.phase }, { on := 8, ground := Ground.phase }, { on := 9, ground := Ground.phase }, { on := 10, ground := Ground.phase }, { on := 11, ground := Ground.phase }, { on := 12, ground := Ground.phase }, { on := 13, ground := Ground.phase }, { on := 14, ground := Ground.phase }, { on := 15, ground := Ground.phase }, { on := 16, ground := Ground.phase }, { on := 17, ground := Ground.phase }, { on := 18, ground := Ground.phase }, { on := 19, ground := Ground.phase }, { on := 20, ground := Ground.phase }, { on := 21, ground := Ground.phase }, { on := 22, ground := Ground.phase }], guard := none }) (v := .int .i64 E) rfl (by kernel_rfl) (by kernel_rfl) (by kernel_rfl) (fun _ _ _ h => h) (Or.inl ⟨by rfl, fun W hW => ?_⟩) hSw ?_
    · first | (go_simp; done) | rfl
    try simp only [Act.put, List.setIfInBounds_toArray, List.set_cons_zero, List.set_cons_succ]
    refine wpAnyH_done (by kernel_rfl) ?_ _
    go_wp2_with fail
    refine (HF.out 2 U.drew (below_drewN' (Below.refl _ _))).mono ?_; rintro e w2 hE
    obtain ⟨rfl, hR⟩ := (show e = .returned (.bool true) ∧ StepE ow b j p g n (failT W T 2) (U.drew) e w2 from ⟨hE.1, hE⟩)
    have HR := Lib.hid hR
    clear hE hR
    go_wp2_with fail
    go_ret
    exact ((HR.out.from (below_drewN' (Below.refl _ _))).from HB.out)
end Go.Proofs.Ytijciojipcgiaaa
