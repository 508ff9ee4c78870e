/- Deeds that tell, and that end a block. -/
import Derived.Test.YtijciojipcgiaaaRows
import Derived.Test.YtijciojipcgiaaaWkReg2
import Derived.Test.YtijciojipcgiaaaWkPush
import Derived.Lib.AppendZeros
import Derived.Test.YtijciojipcgiaaaIrSizes
import Derived.Test.YtijciojipcgiaaaIrBoth
import Derived.Test.YtijciojipcgiaaaWkBack
import Derived.LoopTactic
import Derived.LoopN
import Derived.WalkKit
import Derived.WalkSpells
import Derived.WalkLawsBesides
import Derived.Lib.Hide
import Derived.OrdersHeld
import Derived.Deep.RegionHeld
import Derived.Deep.DrawnRows
import Derived.RegionTactic
import Derived.Deep.RegionHeld3
import Derived.IntWalk
namespace Go.Proofs.Ytijciojipcgiaaa
open Go.RowKit
set_option maxRecDepth 100000
attribute [local go_sem ↓] bld_eq bls_eq

theorem made_one64 (n : Int) (w : World) : (bls 35 1 #[(0, .int .i64 n)]).run Try.prog w = .ok (.slice (some ⟨w.heap.size, 0, none⟩) 1 1) (w.alloc (.cells #[.int .i64 n] 2)) := bls_of 35 2 1 1 #[(0, .int .i64 n)] #[.int .i64 n] (by kernel_rfl) (by kernel_rfl) (by kernel_rfl) (by omega) (by omega) (by kernel_rfl) (by kernel_rfl) w
theorem Tail.form {ow : Nat → Nat} {w : World} {lab : Nat} {v : Value} {l : List Int} (h : Tail ow w lab v l) : ∃ q c, v = .slice q l.length c := by
  rcases h with ⟨rfl, rfl⟩ | ⟨g, off, cap, cur, rfl, _⟩
  · exact ⟨none, 0, rfl⟩
  · exact ⟨_, _, rfl⟩
set_option maxHeartbeats 8000000 in
theorem print_in_any (ow : Nat → Nat) (w : World) (b j p n : Nat) (g : Gr) (W : WS) (T : TS) (v rs us ts ws : Value) (k o : Int) (aa : Int) (bb : Nat) (cc x : Int) (h1 : WAt ow w b W n v) (h2 : TAt ow w b j p g T rs us ts ws) (hb : bb < T.regs.length) (hin : T.inside = true) (hl : T.waiting.length ≤ 1048576) :
    Calls Try.prog 39 #[.pointer (some ⟨p, 0, none⟩), .agg #[.int .u8 k, .int .u8 o, .int .i64 aa, .int .i64 (bb : Int), .int .i64 cc, .int .i64 x]] w (StepE ow b j p g n (W, { T with waiting := T.waiting ++ [T.reg (bb : Int)] }, false) w) := by
  obtain ⟨rg, er, hrg, hrl⟩ := h2.regs
  have her := er
  obtain ⟨U, hU⟩ : ∃ U, U = w.alloc (.cells #[.int .u8 k, .int .u8 o, .int .i64 aa, .int .i64 (bb : Int), .int .i64 cc, .int .i64 x] 53) := ⟨_, rfl⟩
  have hBU : Below w.heap.size w U := by rw [hU]; exact below_box w _
  have hzU : U.heap.size = w.heap.size + 1 := by rw [hU]; simp
  have hO : U.heap[w.heap.size]? = some (.cells #[.int .u8 k, .int .u8 o, .int .i64 aa, .int .i64 (bb : Int), .int .i64 cc, .int .i64 x] 53 (0, 0)) := by rw [hU]; exact (MapKept.heap_alloc _ _).1
  have h1U := h1.keeps (But.of (ls := []) hBU) (.refl _ _) (by simp) (by simp)
  have h2U := h2.keeps (But.of (ls := []) hBU) (.refl _ _) (by simp)
  have hlp : p < w.heap.size := heap_lt h2.box
  have hlb : b < w.heap.size := heap_lt h1.box
  have hlr : rg < w.heap.size := heap_lt hrg
  have hrgU := (hBU.block rg hlr).trans hrg
  obtain ⟨d0, d3, d4, d5, d6, d7, d8, d9, d10, d11, d12⟩ := h2U.cells
  obtain ⟨e0, e1, e2⟩ := h1U.cells
  rw [her] at d4
  obtain ⟨i0, i1, i2, i3, i4, i5⟩ := own6 hO
  have fr := fun (q : Nat) => Lib.frozen_of_heap hrgU q
  obtain ⟨NR, hNR⟩ : ∃ N, N = T.regs.length := ⟨_, rfl⟩
  have hbx : bb < NR := by rw [hNR]; exact hb
  obtain ⟨z, hz⟩ : ∃ z, T.regs[bb]? = some z := ⟨_, List.getElem?_eq_getElem hb⟩
  have s1 := wds_cell hrgU bb z hz
  rw [reg_of hz]
  rw [hin] at d7
  have D7 := Lib.hid d7
  have h1d := h1U.keeps (But.of (ls := []) (below_drewN' (Below.refl _ _))) (.refl _ _) (by simp) (by simp)
  have h2d := h2U.keeps (But.of (ls := []) (below_drewN' (Below.refl _ _))) (.refl _ _) (by simp)
  obtain ⟨v', w4, hr, ⟨q2, c2, hv⟩, g0, f0, ow', he, h1e, h2e, hk⟩ := wait_push ow U.drew b j p n g W T v rs us ts ws h1d h2d z hl
  obtain ⟨q1, c1, hw1⟩ := h2.waiting.form
  obtain ⟨NL, hNL⟩ : ∃ N, N = T.waiting.length := ⟨_, rfl⟩
  have D11 := Lib.hid d11
  have G0 := Lib.hid g0
  have F0 := Lib.hid f0
  have HR0 := Lib.hid hr
  have HEND := Lib.hid (And.intro he (And.intro h1e (And.intro h2e hk)))
  have HV := Lib.hid hv
  have HW1 := Lib.hid hw1
  clear h1d h2d hr g0 f0 he h1e h2e hk hv hw1 hNL
  have H1 := Lib.hid h1U
  have H2 := Lib.hid h2U
  have HB := Lib.hid hBU
  have HU := Lib.hid hU
  have HER := Lib.hid her
  rw [← hNR] at d4
  have HNR := Lib.hid hNR
  clear d3 d5 d6 d7 d8 d9 d10 d11 d12 e0 e1 e2
  clear h1 h2 h1U h2U hBU hO hrg hrgU hrl er her hU hNR hb fr hz hin hl
  go_enter Try.func39, Try.ntmps39
  go_wp2_with fail
  rw [← HU.out]
  refine wp_region_held_drew (S := SameTo (w.heap.size + 1) U) (by kernel_rfl) (SameTo.drew _ _) (fun hSw => ?_)
  refine wpAnyH_take (i := 0) (oi := { dst := some 6, op := Op.move (Operand.tmp 0), type := 63, pos := "deeds.go:122", after := #[], guard := none }) (v := .pointer (some ⟨p, 0, none⟩)) rfl (by kernel_rfl) (by kernel_rfl) (by kernel_rfl) (fun _ _ _ h => h) (Or.inl ⟨by rfl, fun W hW => ?_⟩) hSw ?_
  · first | (go_simp; done) | rfl
  try simp only [Act.put, List.setIfInBounds_toArray, List.set_cons_zero, List.set_cons_succ]
  refine wpAnyH_take (i := 1) (oi := { dst := some 7, op := Op.nilCheck (Operand.tmp 6), type := 0, pos := "deeds.go:122", after := #[{ on := 0, ground := Ground.data }], guard := none }) (v := .pointer (some ⟨p, 0, none⟩)) rfl (by kernel_rfl) (by kernel_rfl) (by kernel_rfl) (fun _ _ _ h => h) (Or.inl ⟨by rfl, fun W hW => ?_⟩) hSw ?_
  · first | (go_simp; done) | rfl
  try simp only [Act.put, List.setIfInBounds_toArray, List.set_cons_zero, List.set_cons_succ]
  refine wpAnyH_take (i := 2) (oi := { dst := some 8, op := Op.fieldAddr 80 (Operand.tmp 7) 2, type := 0, pos := "deeds.go:122", after := #[{ on := 1, ground := Ground.data }], guard := none }) (v := .pointer (some ⟨p, 4, none⟩)) rfl (by kernel_rfl) (by kernel_rfl) (by kernel_rfl) (fun _ _ _ h => h) (Or.inl ⟨by rfl, fun W hW => ?_⟩) hSw ?_
  · first | (go_simp; done) | rfl
  try simp only [Act.put, List.setIfInBounds_toArray, List.set_cons_zero, List.set_cons_succ]
  refine wpAnyH_take (i := 3) (oi := { dst := some 9, op := Op.load 35 (Operand.tmp 8), type := 35, pos := "deeds.go:122", after := #[{ on := 2, ground := Ground.data }], guard := none }) (v := .slice (some ⟨rg, 0, none⟩) NR NR) rfl (by kernel_rfl) (by kernel_rfl) (by kernel_rfl) (fun _ _ _ h => h) (Or.inl ⟨by rfl, fun W hW => ?_⟩) hSw ?_
  · have d4 := hW.cell (by dsimp only; omega) d4
    first | (go_simp; done) | rfl
  try simp only [Act.put, List.setIfInBounds_toArray, List.set_cons_zero, List.set_cons_succ]
  refine wpAnyH_take (i := 4) (oi := { dst := some 10, op := Op.fieldAddr 53 (Operand.tmp 3) 3, type := 0, pos := "deeds.go:122", after := #[], guard := none }) (v := .pointer (some ⟨w.heap.size, 3, none⟩)) rfl (by kernel_rfl) (by kernel_rfl) (by kernel_rfl) (fun _ _ _ h => h) (Or.inl ⟨by rfl, fun W hW => ?_⟩) hSw ?_
  · first | (go_simp; done) | rfl
  try simp only [Act.put, List.setIfInBounds_toArray, List.set_cons_zero, List.set_cons_succ]
  refine wpAnyH_take (i := 5) (oi := { dst := some 11, op := Op.load 3 (Operand.tmp 10), type := 3, pos := "deeds.go:122", after := #[{ on := 4, ground := Ground.data }], guard := none }) (v := .int .i64 (bb : Int)) rfl (by kernel_rfl) (by kernel_rfl) (by kernel_rfl) (fun _ _ _ h => h) (Or.inl ⟨by rfl, fun W hW => ?_⟩) hSw ?_
  · have i3 := hW.cell (by dsimp only; omega) i3
    first | (go_simp; done) | rfl
  try simp only [Act.put, List.setIfInBounds_toArray, List.set_cons_zero, List.set_cons_succ]
  refine wpAnyH_take (i := 6) (oi := { dst := some 12, op := Op.indexAddr 35 (Operand.tmp 9) (Operand.tmp 11), type := 0, pos := "deeds.go:122", after := #[{ on := 3, ground := Ground.data }, { on := 5, ground := Ground.data }], guard := none }) (v := .pointer (some ⟨rg, bb, none⟩)) rfl (by kernel_rfl) (by kernel_rfl) (by kernel_rfl) (fun _ _ _ h => h) (Or.inl ⟨by rfl, fun W hW => ?_⟩) hSw ?_
  · first | (go_simp; done) | rfl
  try simp only [Act.put, List.setIfInBounds_toArray, List.set_cons_zero, List.set_cons_succ]
  refine wpAnyH_take (i := 7) (oi := { dst := some 13, op := Op.load 2 (Operand.tmp 12), type := 2, pos := "deeds.go:122", after := #[{ on := 6, ground := Ground.data }], guard := none }) (v := .int .i64 z) rfl (by kernel_rfl) (by kernel_rfl) (by kernel_rfl) (fun _ _ _ h => h) (Or.inl ⟨by rfl, fun W hW => ?_⟩) hSw ?_
  · have s1 := hW.cell (by dsimp only; omega) s1
    first | (go_simp; done) | rfl
  try simp only [Act.put, List.setIfInBounds_toArray, List.set_cons_zero, List.set_cons_succ]
  refine wpAnyH_take (i := 8) (oi := { dst := some 5, op := Op.assign (Operand.tmp 13), type := 2, pos := "deeds.go:122", after := #[{ on := 7, ground := Ground.data }, { on := 0, ground := Ground.phase }, { on := 1, ground := Ground.phase }, { on := 2, ground := Ground.phase }, { on := 3, ground := Ground.phase }, { on := 4, ground := Ground.phase }, { on := 5, ground := Ground.phase }, { on := 6, ground := Ground.phase }, { on := 7, ground := Ground.phase }], guard := none }) (v := .int .i64 z) rfl (by kernel_rfl) (by kernel_rfl) (by kernel_rfl) (fun _ _ _ h => h) (Or.inl ⟨by rfl, fun W hW => ?_⟩) hSw ?_
  · first | (go_simp; done) | rfl
  try simp only [Act.put, List.setIfInBounds_toArray, List.set_cons_zero, List.set_cons_succ]
  refine wpAnyH_done (by kernel_rfl) ?_ _
  have d7 : U.drew.cell? ⟨p, 7, none⟩ = some (.bool true) := D7.out
  have d11 : U.drew.cell? ⟨p, 11, none⟩ = some ws := D11.out
  have e3 := made_one64
  obtain ⟨U2, hU2⟩ : ∃ U2, U2 = U.drew := ⟨_, rfl⟩
  rw [← hU2] at d7 d11 HR0 ⊢
  have HU2 := Lib.hid hU2
  have hz2 : U2.heap.size = w.heap.size + 1 := by rw [hU2]; exact hzU
  have hlp2 : p < U2.heap.size := by omega
  rw [hz2] at HR0
  clear hU2 i0 i1 i2 i3 i4 i5 s1 d0 d4
  have hw1 := HW1.out
  subst hw1
  go_wp2_with (at_builtin; refine wpList_plain rfl fun _ hK => Lib.wp_append_run _ (Operand.tmp 22) (Operand.tmp 24) 35 35 rfl _ _ rfl rfl v' w4 HR0.out (hK _ _ ?_))
  have hv := HV.out
  subst hv
  have g0 := G0.out
  have f0 := F0.out
  clear d7 d11 e3
  go_wp2_with fail
  go_ret
  exact StepE.from (HB.out.drew) ⟨rfl, ow', v, rs, us, ts, _, HEND.out.1, HEND.out.2.1, HEND.out.2.2.1, HEND.out.2.2.2⟩
set_option maxHeartbeats 8000000 in
theorem print_out_any (ow : Nat → Nat) (w : World) (b j p n : Nat) (g : Gr) (W : WS) (T : TS) (v rs us ts ws : Value) (k o : Int) (aa : Int) (bb : Nat) (cc x : Int) (h1 : WAt ow w b W n v) (h2 : TAt ow w b j p g T rs us ts ws) (hb : bb < T.regs.length) (hin : T.inside = false) (hl : T.told.length ≤ 1048576) :
    Calls Try.prog 39 #[.pointer (some ⟨p, 0, none⟩), .agg #[.int .u8 k, .int .u8 o, .int .i64 aa, .int .i64 (bb : Int), .int .i64 cc, .int .i64 x]] w (StepE ow b j p g n (W, { T with told := T.told ++ [T.reg (bb : Int)] }, true) w) := by
  obtain ⟨rg, er, hrg, hrl⟩ := h2.regs
  have her := er
  obtain ⟨U, hU⟩ : ∃ U, U = w.alloc (.cells #[.int .u8 k, .int .u8 o, .int .i64 aa, .int .i64 (bb : Int), .int .i64 cc, .int .i64 x] 53) := ⟨_, rfl⟩
  have hBU : Below w.heap.size w U := by rw [hU]; exact below_box w _
  have hzU : U.heap.size = w.heap.size + 1 := by rw [hU]; simp
  have hO : U.heap[w.heap.size]? = some (.cells #[.int .u8 k, .int .u8 o, .int .i64 aa, .int .i64 (bb : Int), .int .i64 cc, .int .i64 x] 53 (0, 0)) := by rw [hU]; exact (MapKept.heap_alloc _ _).1
  have h1U := h1.keeps (But.of (ls := []) hBU) (.refl _ _) (by simp) (by simp)
  have h2U := h2.keeps (But.of (ls := []) hBU) (.refl _ _) (by simp)
  have hlp : p < w.heap.size := heap_lt h2.box
  have hlb : b < w.heap.size := heap_lt h1.box
  have hlr : rg < w.heap.size := heap_lt hrg
  have hrgU := (hBU.block rg hlr).trans hrg
  obtain ⟨d0, d3, d4, d5, d6, d7, d8, d9, d10, d11, d12⟩ := h2U.cells
  obtain ⟨e0, e1, e2⟩ := h1U.cells
  rw [her] at d4
  obtain ⟨i0, i1, i2, i3, i4, i5⟩ := own6 hO
  have fr := fun (q : Nat) => Lib.frozen_of_heap hrgU q
  obtain ⟨NR, hNR⟩ : ∃ N, N = T.regs.length := ⟨_, rfl⟩
  have hbx : bb < NR := by rw [hNR]; exact hb
  obtain ⟨z, hz⟩ : ∃ z, T.regs[bb]? = some z := ⟨_, List.getElem?_eq_getElem hb⟩
  have s1 := wds_cell hrgU bb z hz
  rw [reg_of hz]
  rw [hin] at d7
  have D7 := Lib.hid d7
  have h1d := h1U.keeps (But.of (ls := []) (below_drewN' (Below.refl _ _))) (.refl _ _) (by simp) (by simp)
  have h2d := h2U.keeps (But.of (ls := []) (below_drewN' (Below.refl _ _))) (.refl _ _) (by simp)
  obtain ⟨v', w4, hr, ⟨q2, c2, hv⟩, g0, f0, ow', he, h1e, h2e, hk⟩ := told_push ow U.drew b j p n g W T v rs us ts ws h1d h2d z hl
  obtain ⟨q1, c1, hw1⟩ := h2.told.form
  obtain ⟨NL, hNL⟩ : ∃ N, N = T.told.length := ⟨_, rfl⟩
  have D10 := Lib.hid d10
  have G0 := Lib.hid g0
  have F0 := Lib.hid f0
  have HR0 := Lib.hid hr
  have HEND := Lib.hid (And.intro he (And.intro h1e (And.intro h2e hk)))
  have HV := Lib.hid hv
  have HW1 := Lib.hid hw1
  clear h1d h2d hr g0 f0 he h1e h2e hk hv hw1 hNL
  have H1 := Lib.hid h1U
  have H2 := Lib.hid h2U
  have HB := Lib.hid hBU
  have HU := Lib.hid hU
  have HER := Lib.hid her
  rw [← hNR] at d4
  have HNR := Lib.hid hNR
  clear d3 d5 d6 d7 d8 d9 d10 d11 d12 e0 e1 e2
  clear h1 h2 h1U h2U hBU hO hrg hrgU hrl er her hU hNR hb fr hz hin hl
  go_enter Try.func39, Try.ntmps39
  go_wp2_with fail
  rw [← HU.out]
  refine wp_region_held_drew (S := SameTo (w.heap.size + 1) U) (by kernel_rfl) (SameTo.drew _ _) (fun hSw => ?_)
  refine wpAnyH_take (i := 0) (oi := { dst := some 6, op := Op.move (Operand.tmp 0), type := 63, pos := "deeds.go:122", after := #[], guard := none }) (v := .pointer (some ⟨p, 0, none⟩)) rfl (by kernel_rfl) (by kernel_rfl) (by kernel_rfl) (fun _ _ _ h => h) (Or.inl ⟨by rfl, fun W hW => ?_⟩) hSw ?_
  · first | (go_simp; done) | rfl
  try simp only [Act.put, List.setIfInBounds_toArray, List.set_cons_zero, List.set_cons_succ]
  refine wpAnyH_take (i := 1) (oi := { dst := some 7, op := Op.nilCheck (Operand.tmp 6), type := 0, pos := "deeds.go:122", after := #[{ on := 0, ground := Ground.data }], guard := none }) (v := .pointer (some ⟨p, 0, none⟩)) rfl (by kernel_rfl) (by kernel_rfl) (by kernel_rfl) (fun _ _ _ h => h) (Or.inl ⟨by rfl, fun W hW => ?_⟩) hSw ?_
  · first | (go_simp; done) | rfl
  try simp only [Act.put, List.setIfInBounds_toArray, List.set_cons_zero, List.set_cons_succ]
  refine wpAnyH_take (i := 2) (oi := { dst := some 8, op := Op.fieldAddr 80 (Operand.tmp 7) 2, type := 0, pos := "deeds.go:122", after := #[{ on := 1, ground := Ground.data }], guard := none }) (v := .pointer (some ⟨p, 4, none⟩)) rfl (by kernel_rfl) (by kernel_rfl) (by kernel_rfl) (fun _ _ _ h => h) (Or.inl ⟨by rfl, fun W hW => ?_⟩) hSw ?_
  · first | (go_simp; done) | rfl
  try simp only [Act.put, List.setIfInBounds_toArray, List.set_cons_zero, List.set_cons_succ]
  refine wpAnyH_take (i := 3) (oi := { dst := some 9, op := Op.load 35 (Operand.tmp 8), type := 35, pos := "deeds.go:122", after := #[{ on := 2, ground := Ground.data }], guard := none }) (v := .slice (some ⟨rg, 0, none⟩) NR NR) rfl (by kernel_rfl) (by kernel_rfl) (by kernel_rfl) (fun _ _ _ h => h) (Or.inl ⟨by rfl, fun W hW => ?_⟩) hSw ?_
  · have d4 := hW.cell (by dsimp only; omega) d4
    first | (go_simp; done) | rfl
  try simp only [Act.put, List.setIfInBounds_toArray, List.set_cons_zero, List.set_cons_succ]
  refine wpAnyH_take (i := 4) (oi := { dst := some 10, op := Op.fieldAddr 53 (Operand.tmp 3) 3, type := 0, pos := "deeds.go:122", after := #[], guard := none }) (v := .pointer (some ⟨w.heap.size, 3, none⟩)) rfl (by kernel_rfl) (by kernel_rfl) (by kernel_rfl) (fun _ _ _ h => h) (Or.inl ⟨by rfl, fun W hW => ?_⟩) hSw ?_
  · first | (go_simp; done) | rfl
  try simp only [Act.put, List.setIfInBounds_toArray, List.set_cons_zero, List.set_cons_succ]
  refine wpAnyH_take (i := 5) (oi := { dst := some 11, op := Op.load 3 (Operand.tmp 10), type := 3, pos := "deeds.go:122", after := #[{ on := 4, ground := Ground.data }], guard := none }) (v := .int .i64 (bb : Int)) rfl (by kernel_rfl) (by kernel_rfl) (by kernel_rfl) (fun _ _ _ h => h) (Or.inl ⟨by rfl, fun W hW => ?_⟩) hSw ?_
  · have i3 := hW.cell (by dsimp only; omega) i3
    first | (go_simp; done) | rfl
  try simp only [Act.put, List.setIfInBounds_toArray, List.set_cons_zero, List.set_cons_succ]
  refine wpAnyH_take (i := 6) (oi := { dst := some 12, op := Op.indexAddr 35 (Operand.tmp 9) (Operand.tmp 11), type := 0, pos := "deeds.go:122", after := #[{ on := 3, ground := Ground.data }, { on := 5, ground := Ground.data }], guard := none }) (v := .pointer (some ⟨rg, bb, none⟩)) rfl (by kernel_rfl) (by kernel_rfl) (by kernel_rfl) (fun _ _ _ h => h) (Or.inl ⟨by rfl, fun W hW => ?_⟩) hSw ?_
  · first | (go_simp; done) | rfl
  try simp only [Act.put, List.setIfInBounds_toArray, List.set_cons_zero, List.set_cons_succ]
  refine wpAnyH_take (i := 7) (oi := { dst := some 13, op := Op.load 2 (Operand.tmp 12), type := 2, pos := "deeds.go:122", after := #[{ on := 6, ground := Ground.data }], guard := none }) (v := .int .i64 z) rfl (by kernel_rfl) (by kernel_rfl) (by kernel_rfl) (fun _ _ _ h => h) (Or.inl ⟨by rfl, fun W hW => ?_⟩) hSw ?_
  · have s1 := hW.cell (by dsimp only; omega) s1
    first | (go_simp; done) | rfl
  try simp only [Act.put, List.setIfInBounds_toArray, List.set_cons_zero, List.set_cons_succ]
  refine wpAnyH_take (i := 8) (oi := { dst := some 5, op := Op.assign (Operand.tmp 13), type := 2, pos := "deeds.go:122", after := #[{ on := 7, ground := Ground.data }, { on := 0, ground := Ground.phase }, { on := 1, ground := Ground.phase }, { on := 2, ground := Ground.phase }, { on := 3, ground := Ground.phase }, { on := 4, ground := Ground.phase }, { on := 5, ground := Ground.phase }, { on := 6, ground := Ground.phase }, { on := 7, ground := Ground.phase }], guard := none }) (v := .int .i64 z) rfl (by kernel_rfl) (by kernel_rfl) (by kernel_rfl) (fun _ _ _ h => h) (Or.inl ⟨by rfl, fun W hW => ?_⟩) hSw ?_
  · first | (go_simp; done) | rfl
  try simp only [Act.put, List.setIfInBounds_toArray, List.set_cons_zero, List.set_cons_succ]
  refine wpAnyH_done (by kernel_rfl) ?_ _
  have d7 : U.drew.cell? ⟨p, 7, none⟩ = some (.bool false) := D7.out
  have d10 : U.drew.cell? ⟨p, 10, none⟩ = some ts := D10.out
  have e3 := made_one64
  obtain ⟨U2, hU2⟩ : ∃ U2, U2 = U.drew := ⟨_, rfl⟩
  rw [← hU2] at d7 d10 HR0 ⊢
  have HU2 := Lib.hid hU2
  have hz2 : U2.heap.size = w.heap.size + 1 := by rw [hU2]; exact hzU
  have hlp2 : p < U2.heap.size := by omega
  rw [hz2] at HR0
  clear hU2 i0 i1 i2 i3 i4 i5 s1 d0 d4
  have hw1 := HW1.out
  subst hw1
  go_wp2_with (at_builtin; refine wpList_plain rfl fun _ hK => Lib.wp_append_run _ (Operand.tmp 32) (Operand.tmp 34) 35 35 rfl _ _ rfl rfl v' w4 HR0.out (hK _ _ ?_))
  have hv := HV.out
  subst hv
  have g0 := G0.out
  have f0 := F0.out
  clear d7 d10 e3
  go_wp2_with fail
  go_ret
  exact StepE.from (HB.out.drew) ⟨rfl, ow', v, rs, us, _, ws, HEND.out.1, HEND.out.2.1, HEND.out.2.2.1, HEND.out.2.2.2⟩
end Go.Proofs.Ytijciojipcgiaaa
