/- The end of a block of a graph. -/
import Derived.Test.YtijciojipcgiaaaRows
import Derived.Test.YtijciojipcgiaaaWkHold
import Derived.Test.YtijciojipcgiaaaIrSizes
import Derived.Test.YtijciojipcgiaaaIrBoth
import Derived.Test.YtijciojipcgiaaaWkBack
import Derived.LoopTactic
import Derived.LoopN
import Derived.WalkKit
import Derived.WalkSpells
import Derived.WalkLawsBesides
import Derived.Lib.Hide
import Derived.OrdersHeld
import Derived.Deep.RegionHeld
import Derived.Deep.DrawnRows
import Derived.RegionTactic
import Derived.Deep.RegionHeld3
import Derived.IntWalk
namespace Go.Proofs.Ytijciojipcgiaaa
open Go.RowKit
set_option maxRecDepth 100000
attribute [local go_sem ↓] bld_eq bls_eq

def RegI (R : Nat) (x : Int) : Prop := 0 ≤ x ∧ x < (R : Int)
theorem TAt.spot {ow : Nat → Nat} {w : World} {b j p : Nat} {g : Gr} {T : TS} {rs us ts ws : Value} (h : TAt ow w b j p g T rs us ts ws) (x y : Nat) :
    TAt ow ((w.setCell ⟨p, 5, none⟩ (.int .i64 (x : Int))).setCell ⟨p, 6, none⟩ (.int .i64 (y : Int))) b j p g { T with bi := x, ii := y } rs us ts ws ∧ But ow [10 + 8 * j] w ((w.setCell ⟨p, 5, none⟩ (.int .i64 (x : Int))).setCell ⟨p, 6, none⟩ (.int .i64 (y : Int))) := by
  have hs1 : But ow [10 + 8 * j] w ((w.setCell ⟨p, 5, none⟩ (.int .i64 (x : Int))).setCell ⟨p, 6, none⟩ (.int .i64 (y : Int))) := but_then (but_set _ _ h.lab) (but_set _ _ h.lab)
  refine ⟨h.rebox hs1 ?_ rfl rfl rfl rfl, hs1⟩
  rw [heap_setCell_same _ p 6 _ _ _ (tset_box 5 _ h.box rfl)]
  rfl
theorem spot_end {ow : Nat → Nat} {w u u' : World} {b j p n : Nat} {g : Gr} {W : WS} {T : TS} {v rs us ts ws : Value} (hb : Below w.heap.size w u) (h1 : WAt ow u b W n v) (h2 : TAt ow u b j p g T rs us ts ws) (x y : Nat) (hu : u' = (u.setCell ⟨p, 5, none⟩ (.int .i64 (x : Int))).setCell ⟨p, 6, none⟩ (.int .i64 (y : Int))) (r : Bool) :
    StepE ow b j p g n (W, { T with bi := x, ii := y }, r) w (.returned (.bool r)) u' := by
  subst hu
  obtain ⟨h3, h4⟩ := h2.spot x y
  exact ⟨rfl, ow, v, rs, us, ts, ws, .refl _ _, h1.keeps h4 (.refl _ _) (by simp; omega) (by simp; omega), h3, (Kp.of hb).trans (.refl _ _) (h4.kp (by intro l hl; simp at hl; unfold Mine; omega))⟩
theorem eq2_of (L : Int) (k : Int) (h : L ≠ k) : (L == k) = false := by simpa using h
theorem made_spot (x : Int) : ∀ w, (bld 74 #[(0, .int .i64 x)]).run Try.prog w = .ok (.agg #[.int .i64 x, .int .i64 0]) w := bld_of 74 #[(0, .int .i64 x)] #[.int .i64 x, .int .i64 0] (by kernel_rfl)
set_option maxHeartbeats 8000000 in
theorem wlast_any (ow : Nat → Nat) (w : World) (b j p n : Nat) (g : Gr) (W : WS) (T : TS) (v rs us ts ws : Value) (bk : Bk) (bg off : Nat) (h1 : WAt ow w b W n v) (h2 : TAt ow w b j p g T rs us ts ws) (hlb : bg < w.heap.size)
    (hc : ∀ q u, bk.cells[q]? = some u → w.cell? ⟨bg, off + q, none⟩ = some u) (hr : bk.last = 2 → RegI T.regs.length bk.reg) (hy : bk.last ≠ 3 → 0 ≤ bk.yes) (hn : bk.last = 2 → 0 ≤ bk.no) :
    Calls Try.prog 59 #[.pointer (some ⟨p, 0, none⟩), .pointer (some ⟨bg, off, none⟩)] w (StepE ow b j p g n (W, (lastT T bk).1, (lastT T bk).2) w) := by
  obtain ⟨iv, ins, L, R, Y, NO⟩ := bk
  dsimp only at hr hy hn
  have k1 : w.cell? ⟨bg, off + 1, none⟩ = some (.int .u8 L) := hc 1 _ rfl
  have k2 : w.cell? ⟨bg, off + 2, none⟩ = some (.int .i64 R) := hc 2 _ rfl
  have k3 : w.cell? ⟨bg, off + 3, none⟩ = some (.int .i64 Y) := hc 3 _ rfl
  have k4 : w.cell? ⟨bg, off + 4, none⟩ = some (.int .i64 NO) := hc 4 _ rfl
  obtain ⟨rg, er, hrg, hrl⟩ := h2.regs
  have hlp : p < w.heap.size := heap_lt h2.box
  have hlr : rg < w.heap.size := heap_lt hrg
  obtain ⟨d0, d3, d4, d5, d6, d7, d8, d9, d10, d11, d12⟩ := h2.cells
  have f5 := Lib.frozen_of_heap h2.box 5
  have f6 := Lib.frozen_of_heap h2.box 6
  have f12 := Lib.frozen_of_heap h2.box 12
  have b0 := made_spot
  obtain ⟨NR, hNR⟩ : ∃ N, N = T.regs.length := ⟨_, rfl⟩
  have her := er
  rw [er, ← hNR] at d4
  have H1 := Lib.hid h1
  have H2 := Lib.hid h2
  have HRG := Lib.hid hrg
  have HNR := Lib.hid hNR
  clear h1 h2 hc hrg hrl d0 d3 d7 d8 d9 d10 d11 er hNR
  by_cases h3 : L = 3
  · subst h3
    have hl : lastT T ⟨iv, ins, 3, R, Y, NO⟩ = ({ T with fin := 1 }, true) := rfl
    rw [hl]
    have hs1 : But ow [10 + 8 * j] w (w.setCell ⟨p, 12, none⟩ (.int .u8 1)) := but_set _ _ H2.out.lab
    have hfin : StepE ow b j p g n (W, { T with fin := 1 }, true) w (.returned (.bool true)) (w.setCell ⟨p, 12, none⟩ (.int .u8 1)) :=
      ⟨rfl, ow, v, rs, us, ts, ws, .refl _ _, H1.out.keeps hs1 (.refl _ _) (by simp; omega) (by simp; omega), H2.out.rebox hs1 (tset_box 12 _ H2.out.box rfl) rfl rfl rfl rfl, hs1.kp (by intro l hl; simp at hl; unfold Mine; omega)⟩
    have HF := Lib.hid hfin
    clear hl hs1 hfin hr hy hn her
    go_enter Try.func59, Try.ntmps59
    go_wp2_with fail
    go_ret
    exact HF.out
  · have h3' := eq2_of L 3 h3
    obtain ⟨Yn, rfl⟩ : ∃ y : Nat, Y = (y : Int) := ⟨Y.toNat, by have := hy h3; omega⟩
    by_cases h2' : L = 2
    · subst h2'
      obtain ⟨rn, rfl, hrn⟩ : ∃ r : Nat, R = (r : Int) ∧ r < T.regs.length := ⟨R.toNat, by have := hr rfl; unfold RegI at this; omega, by have := hr rfl; unfold RegI at this; omega⟩
      obtain ⟨Nn, rfl⟩ : ∃ y : Nat, NO = (y : Int) := ⟨NO.toNat, by have := hn rfl; omega⟩
      obtain ⟨z, hz⟩ : ∃ z, T.regs[rn]? = some z := ⟨_, List.getElem?_eq_getElem hrn⟩
      have s0 := wds_cell HRG.out rn z hz
      have hrx : rn < NR := by rw [HNR.out]; exact hrn
      have hreg : T.reg (rn : Int) = z := by unfold TS.reg; rw [Int.toNat_natCast, hz]; rfl
      by_cases hz0 : z = 0
      · subst hz0
        have hl : lastT T ⟨iv, ins, 2, (rn : Int), (Yn : Int), (Nn : Int)⟩ = ({ T with bi := Nn, ii := 0 }, false) := by simp [lastT, hreg]
        rw [hl]
        clear hl hr hy hn her hz hrn hreg h3 h3'
        go_enter Try.func59, Try.ntmps59
        go_wp2_with fail
        refine wp_region_held_drew (S := SameTo (w.heap.size) w) (by kernel_rfl) (SameTo.drew _ _) (fun hSw => ?_)
        refine wpAnyH_take (i := 0) (oi := { dst := some 23, op := Op.move (Operand.tmp 1), type := 105, pos := "thread.go:75", after := #[], guard := none }) (v := .pointer (some ⟨bg, off, none⟩)) rfl (by kernel_rfl) (by kernel_rfl) (by kernel_rfl) (fun _ _ _ h => h) (Or.inl ⟨by rfl, fun W hW => ?_⟩) hSw ?_
        · first | (go_simp; done) | rfl
        try simp only [Act.put, List.setIfInBounds_toArray, List.set_cons_zero, List.set_cons_succ]
        refine wpAnyH_take (i := 1) (oi := { dst := some 24, op := Op.nilCheck (Operand.tmp 23), type := 0, pos := "thread.go:75", after := #[{ on := 0, ground := Ground.data }], guard := none }) (v := .pointer (some ⟨bg, off, none⟩)) rfl (by kernel_rfl) (by kernel_rfl) (by kernel_rfl) (fun _ _ _ h => h) (Or.inl ⟨by rfl, fun W hW => ?_⟩) hSw ?_
        · first | (go_simp; done) | rfl
        try simp only [Act.put, List.setIfInBounds_toArray, List.set_cons_zero, List.set_cons_succ]
        refine wpAnyH_take (i := 2) (oi := { dst := some 25, op := Op.fieldAddr 49 (Operand.tmp 24) 1, type := 0, pos := "thread.go:75", after := #[{ on := 1, ground := Ground.data }], guard := none }) (v := .pointer (some ⟨bg, off + 1, none⟩)) rfl (by kernel_rfl) (by kernel_rfl) (by kernel_rfl) (fun _ _ _ h => h) (Or.inl ⟨by rfl, fun W hW => ?_⟩) hSw ?_
        · first | (go_simp; done) | rfl
        try simp only [Act.put, List.setIfInBounds_toArray, List.set_cons_zero, List.set_cons_succ]
        refine wpAnyH_take (i := 3) (oi := { dst := some 26, op := Op.load 47 (Operand.tmp 25), type := 47, pos := "thread.go:75", after := #[{ on := 2, ground := Ground.data }], guard := none }) (v := .int .u8 2) rfl (by kernel_rfl) (by kernel_rfl) (by kernel_rfl) (fun _ _ _ h => h) (Or.inl ⟨by rfl, fun W hW => ?_⟩) hSw ?_
        · have k1 := hW.cell (by dsimp only; omega) k1
          first | (go_simp; done) | rfl
        try simp only [Act.put, List.setIfInBounds_toArray, List.set_cons_zero, List.set_cons_succ]
        refine wpAnyH_take (i := 4) (oi := { dst := some 27, op := Op.binOp BinOp.eql 47 (Operand.tmp 26) (Operand.const (Value.int IntKind.u8 2)) 47, type := 4, pos := "thread.go:75", after := #[{ on := 3, ground := Ground.data }], guard := none }) (v := .bool true) rfl (by kernel_rfl) (by kernel_rfl) (by kernel_rfl) (fun _ _ _ h => h) (Or.inl ⟨by rfl, fun W hW => ?_⟩) hSw ?_
        · first | (go_simp; done) | rfl
        try simp only [Act.put, List.setIfInBounds_toArray, List.set_cons_zero, List.set_cons_succ]
        refine wpAnyH_take (i := 5) (oi := { dst := some 28, op := Op.move (Operand.tmp 27), type := 4, pos := "thread.go:75", after := #[{ on := 4, ground := Ground.data }], guard := none }) (v := .bool true) rfl (by kernel_rfl) (by kernel_rfl) (by kernel_rfl) (fun _ _ _ h => h) (Or.inl ⟨by rfl, fun W hW => ?_⟩) hSw ?_
        · first | (go_simp; done) | rfl
        try simp only [Act.put, List.setIfInBounds_toArray, List.set_cons_zero, List.set_cons_succ]
        refine wpAnyH_take (i := 6) (oi := { dst := some 29, op := Op.move (Operand.tmp 0), type := 63, pos := "thread.go:75", after := #[{ on := 5, ground := Ground.guard }], guard := some (5, true) }) (v := .pointer (some ⟨p, 0, none⟩)) rfl (by kernel_rfl) (by kernel_rfl) (by kernel_rfl) (fun _ _ _ h => h) (Or.inl ⟨by rfl, fun W hW => ?_⟩) hSw ?_
        · first | (go_simp; done) | rfl
        try simp only [Act.put, List.setIfInBounds_toArray, List.set_cons_zero, List.set_cons_succ]
        refine wpAnyH_take (i := 7) (oi := { dst := some 30, op := Op.nilCheck (Operand.tmp 29), type := 0, pos := "thread.go:75", after := #[{ on := 6, ground := Ground.data }, { on := 5, ground := Ground.guard }], guard := some (5, true) }) (v := .pointer (some ⟨p, 0, none⟩)) rfl (by kernel_rfl) (by kernel_rfl) (by kernel_rfl) (fun _ _ _ h => h) (Or.inl ⟨by rfl, fun W hW => ?_⟩) hSw ?_
        · first | (go_simp; done) | rfl
        try simp only [Act.put, List.setIfInBounds_toArray, List.set_cons_zero, List.set_cons_succ]
        refine wpAnyH_take (i := 8) (oi := { dst := some 31, op := Op.fieldAddr 80 (Operand.tmp 30) 2, type := 0, pos := "thread.go:75", after := #[{ on := 7, ground := Ground.data }, { on := 5, ground := Ground.guard }], guard := some (5, true) }) (v := .pointer (some ⟨p, 4, none⟩)) rfl (by kernel_rfl) (by kernel_rfl) (by kernel_rfl) (fun _ _ _ h => h) (Or.inl ⟨by rfl, fun W hW => ?_⟩) hSw ?_
        · first | (go_simp; done) | rfl
        try simp only [Act.put, List.setIfInBounds_toArray, List.set_cons_zero, List.set_cons_succ]
        refine wpAnyH_take (i := 9) (oi := { dst := some 32, op := Op.load 35 (Operand.tmp 31), type := 35, pos := "thread.go:75", after := #[{ on := 8, ground := Ground.data }, { on := 5, ground := Ground.guard }], guard := some (5, true) }) (v := .slice (some ⟨rg, 0, none⟩) NR NR) rfl (by kernel_rfl) (by kernel_rfl) (by kernel_rfl) (fun _ _ _ h => h) (Or.inl ⟨by rfl, fun W hW => ?_⟩) hSw ?_
        · have d4 := hW.cell (by dsimp only; omega) d4
          first | (go_simp; done) | rfl
        try simp only [Act.put, List.setIfInBounds_toArray, List.set_cons_zero, List.set_cons_succ]
        refine wpAnyH_take (i := 10) (oi := { dst := some 33, op := Op.move (Operand.tmp 1), type := 105, pos := "thread.go:75", after := #[{ on := 5, ground := Ground.guard }], guard := some (5, true) }) (v := .pointer (some ⟨bg, off, none⟩)) rfl (by kernel_rfl) (by kernel_rfl) (by kernel_rfl) (fun _ _ _ h => h) (Or.inl ⟨by rfl, fun W hW => ?_⟩) hSw ?_
        · first | (go_simp; done) | rfl
        try simp only [Act.put, List.setIfInBounds_toArray, List.set_cons_zero, List.set_cons_succ]
        refine wpAnyH_take (i := 11) (oi := { dst := some 34, op := Op.nilCheck (Operand.tmp 33), type := 0, pos := "thread.go:75", after := #[{ on := 10, ground := Ground.data }, { on := 5, ground := Ground.guard }], guard := some (5, true) }) (v := .pointer (some ⟨bg, off, none⟩)) rfl (by kernel_rfl) (by kernel_rfl) (by kernel_rfl) (fun _ _ _ h => h) (Or.inl ⟨by rfl, fun W hW => ?_⟩) hSw ?_
        · first | (go_simp; done) | rfl
        try simp only [Act.put, List.setIfInBounds_toArray, List.set_cons_zero, List.set_cons_succ]
        refine wpAnyH_take (i := 12) (oi := { dst := some 35, op := Op.fieldAddr 49 (Operand.tmp 34) 2, type := 0, pos := "thread.go:75", after := #[{ on := 11, ground := Ground.data }, { on := 5, ground := Ground.guard }], guard := some (5, true) }) (v := .pointer (some ⟨bg, off + 2, none⟩)) rfl (by kernel_rfl) (by kernel_rfl) (by kernel_rfl) (fun _ _ _ h => h) (Or.inl ⟨by rfl, fun W hW => ?_⟩) hSw ?_
        · first | (go_simp; done) | rfl
        try simp only [Act.put, List.setIfInBounds_toArray, List.set_cons_zero, List.set_cons_succ]
        refine wpAnyH_take (i := 13) (oi := { dst := some 36, op := Op.load 3 (Operand.tmp 35), type := 3, pos := "thread.go:75", after := #[{ on := 12, ground := Ground.data }, { on := 5, ground := Ground.guard }], guard := some (5, true) }) (v := .int .i64 (rn : Int)) rfl (by kernel_rfl) (by kernel_rfl) (by kernel_rfl) (fun _ _ _ h => h) (Or.inl ⟨by rfl, fun W hW => ?_⟩) hSw ?_
        · have k2 := hW.cell (by dsimp only; omega) k2
          first | (go_simp; done) | rfl
        try simp only [Act.put, List.setIfInBounds_toArray, List.set_cons_zero, List.set_cons_succ]
        refine wpAnyH_take (i := 14) (oi := { dst := some 37, op := Op.indexAddr 35 (Operand.tmp 32) (Operand.tmp 36), type := 0, pos := "thread.go:75", after := #[{ on := 9, ground := Ground.data }, { on := 13, ground := Ground.data }, { on := 5, ground := Ground.guard }], guard := some (5, true) }) (v := .pointer (some ⟨rg, rn, none⟩)) rfl (by kernel_rfl) (by kernel_rfl) (by kernel_rfl) (fun _ _ _ h => h) (Or.inl ⟨by rfl, fun W hW => ?_⟩) hSw ?_
        · first | (go_simp; done) | rfl
        try simp only [Act.put, List.setIfInBounds_toArray, List.set_cons_zero, List.set_cons_succ]
        refine wpAnyH_take (i := 15) (oi := { dst := some 38, op := Op.load 2 (Operand.tmp 37), type := 2, pos := "thread.go:75", after := #[{ on := 14, ground := Ground.data }, { on := 5, ground := Ground.guard }], guard := some (5, true) }) (v := .int .i64 0) rfl (by kernel_rfl) (by kernel_rfl) (by kernel_rfl) (fun _ _ _ h => h) (Or.inl ⟨by rfl, fun W hW => ?_⟩) hSw ?_
        · have s0 := hW.cell (by dsimp only; omega) s0
          first | (go_simp; done) | rfl
        try simp only [Act.put, List.setIfInBounds_toArray, List.set_cons_zero, List.set_cons_succ]
        refine wpAnyH_take (i := 16) (oi := { dst := some 39, op := Op.binOp BinOp.eql 2 (Operand.tmp 38) (Operand.const (Value.int IntKind.i64 0)) 2, type := 4, pos := "thread.go:75", after := #[{ on := 15, ground := Ground.data }, { on := 5, ground := Ground.guard }], guard := some (5, true) }) (v := .bool true) rfl (by kernel_rfl) (by kernel_rfl) (by kernel_rfl) (fun _ _ _ h => h) (Or.inl ⟨by rfl, fun W hW => ?_⟩) hSw ?_
        · first | (go_simp; done) | rfl
        try simp only [Act.put, List.setIfInBounds_toArray, List.set_cons_zero, List.set_cons_succ]
        refine wpAnyH_take (i := 17) (oi := { dst := some 40, op := Op.pick (Operand.tmp 28) (Operand.tmp 39) (Operand.const (Value.bool false)), type := 4, pos := "thread.go:75", after := #[{ on := 5, ground := Ground.data }, { on := 16, ground := Ground.data }], guard := none }) (v := .bool true) rfl (by kernel_rfl) (by kernel_rfl) (by kernel_rfl) (fun _ _ _ h => h) (Or.inl ⟨by rfl, fun W hW => ?_⟩) hSw ?_
        · first | (go_simp; done) | rfl
        try simp only [Act.put, List.setIfInBounds_toArray, List.set_cons_zero, List.set_cons_succ]
        refine wpAnyH_take (i := 18) (oi := { dst := some 22, op := Op.assign (Operand.tmp 40), type := 4, pos := "thread.go:75", after := #[{ on := 17, ground := Ground.data }, { on := 5, ground := Ground.chain }], guard := none }) (v := .bool true) rfl (by kernel_rfl) (by kernel_rfl) (by kernel_rfl) (fun _ _ _ h => h) (Or.inl ⟨by rfl, fun W hW => ?_⟩) hSw ?_
        · first | (go_simp; done) | rfl
        try simp only [Act.put, List.setIfInBounds_toArray, List.set_cons_zero, List.set_cons_succ]
        refine wpAnyH_done (by kernel_rfl) ?_ _
        go_wp2_with fail
        go_ret
        exact spot_end (below_drewN' (Below.refl _ _)) (H1.out.keeps (But.of (ls := []) (below_drewN' (Below.refl _ _))) (.refl _ _) (by simp) (by simp)) (H2.out.keeps (But.of (ls := []) (below_drewN' (Below.refl _ _))) (.refl _ _) (by simp)) Nn 0 rfl false
      · have hl : lastT T ⟨iv, ins, 2, (rn : Int), (Yn : Int), (Nn : Int)⟩ = ({ T with bi := Yn, ii := 0 }, false) := by simp [lastT, hreg, hz0]
        rw [hl]
        have hz1 := eq2_of z 0 hz0
        clear hl hr hy hn her hz hrn hreg h3 h3' hz0
        go_enter Try.func59, Try.ntmps59
        go_wp2_with fail
        refine wp_region_held_drew (S := SameTo (w.heap.size) w) (by kernel_rfl) (SameTo.drew _ _) (fun hSw => ?_)
        refine wpAnyH_take (i := 0) (oi := { dst := some 23, op := Op.move (Operand.tmp 1), type := 105, pos := "thread.go:75", after := #[], guard := none }) (v := .pointer (some ⟨bg, off, none⟩)) rfl (by kernel_rfl) (by kernel_rfl) (by kernel_rfl) (fun _ _ _ h => h) (Or.inl ⟨by rfl, fun W hW => ?_⟩) hSw ?_
        · first | (go_simp; done) | rfl
        try simp only [Act.put, List.setIfInBounds_toArray, List.set_cons_zero, List.set_cons_succ]
        refine wpAnyH_take (i := 1) (oi := { dst := some 24, op := Op.nilCheck (Operand.tmp 23), type := 0, pos := "thread.go:75", after := #[{ on := 0, ground := Ground.data }], guard := none }) (v := .pointer (some ⟨bg, off, none⟩)) rfl (by kernel_rfl) (by kernel_rfl) (by kernel_rfl) (fun _ _ _ h => h) (Or.inl ⟨by rfl, fun W hW => ?_⟩) hSw ?_
        · first | (go_simp; done) | rfl
        try simp only [Act.put, List.setIfInBounds_toArray, List.set_cons_zero, List.set_cons_succ]
        refine wpAnyH_take (i := 2) (oi := { dst := some 25, op := Op.fieldAddr 49 (Operand.tmp 24) 1, type := 0, pos := "thread.go:75", after := #[{ on := 1, ground := Ground.data }], guard := none }) (v := .pointer (some ⟨bg, off + 1, none⟩)) rfl (by kernel_rfl) (by kernel_rfl) (by kernel_rfl) (fun _ _ _ h => h) (Or.inl ⟨by rfl, fun W hW => ?_⟩) hSw ?_
        · first | (go_simp; done) | rfl
        try simp only [Act.put, List.setIfInBounds_toArray, List.set_cons_zero, List.set_cons_succ]
        refine wpAnyH_take (i := 3) (oi := { dst := some 26, op := Op.load 47 (Operand.tmp 25), type := 47, pos := "thread.go:75", after := #[{ on := 2, ground := Ground.data }], guard := none }) (v := .int .u8 2) rfl (by kernel_rfl) (by kernel_rfl) (by kernel_rfl) (fun _ _ _ h => h) (Or.inl ⟨by rfl, fun W hW => ?_⟩) hSw ?_
        · have k1 := hW.cell (by dsimp only; omega) k1
          first | (go_simp; done) | rfl
        try simp only [Act.put, List.setIfInBounds_toArray, List.set_cons_zero, List.set_cons_succ]
        refine wpAnyH_take (i := 4) (oi := { dst := some 27, op := Op.binOp BinOp.eql 47 (Operand.tmp 26) (Operand.const (Value.int IntKind.u8 2)) 47, type := 4, pos := "thread.go:75", after := #[{ on := 3, ground := Ground.data }], guard := none }) (v := .bool true) rfl (by kernel_rfl) (by kernel_rfl) (by kernel_rfl) (fun _ _ _ h => h) (Or.inl ⟨by rfl, fun W hW => ?_⟩) hSw ?_
        · first | (go_simp; done) | rfl
        try simp only [Act.put, List.setIfInBounds_toArray, List.set_cons_zero, List.set_cons_succ]
        refine wpAnyH_take (i := 5) (oi := { dst := some 28, op := Op.move (Operand.tmp 27), type := 4, pos := "thread.go:75", after := #[{ on := 4, ground := Ground.data }], guard := none }) (v := .bool true) rfl (by kernel_rfl) (by kernel_rfl) (by kernel_rfl) (fun _ _ _ h => h) (Or.inl ⟨by rfl, fun W hW => ?_⟩) hSw ?_
        · first | (go_simp; done) | rfl
        try simp only [Act.put, List.setIfInBounds_toArray, List.set_cons_zero, List.set_cons_succ]
        refine wpAnyH_take (i := 6) (oi := { dst := some 29, op := Op.move (Operand.tmp 0), type := 63, pos := "thread.go:75", after := #[{ on := 5, ground := Ground.guard }], guard := some (5, true) }) (v := .pointer (some ⟨p, 0, none⟩)) rfl (by kernel_rfl) (by kernel_rfl) (by kernel_rfl) (fun _ _ _ h => h) (Or.inl ⟨by rfl, fun W hW => ?_⟩) hSw ?_
        · first | (go_simp; done) | rfl
        try simp only [Act.put, List.setIfInBounds_toArray, List.set_cons_zero, List.set_cons_succ]
        refine wpAnyH_take (i := 7) (oi := { dst := some 30, op := Op.nilCheck (Operand.tmp 29), type := 0, pos := "thread.go:75", after := #[{ on := 6, ground := Ground.data }, { on := 5, ground := Ground.guard }], guard := some (5, true) }) (v := .pointer (some ⟨p, 0, none⟩)) rfl (by kernel_rfl) (by kernel_rfl) (by kernel_rfl) (fun _ _ _ h => h) (Or.inl ⟨by rfl, fun W hW => ?_⟩) hSw ?_
        · first | (go_simp; done) | rfl
        try simp only [Act.put, List.setIfInBounds_toArray, List.set_cons_zero, List.set_cons_succ]
        refine wpAnyH_take (i := 8) (oi := { dst := some 31, op := Op.fieldAddr 80 (Operand.tmp 30) 2, type := 0, pos := "thread.go:75", after := #[{ on := 7, ground := Ground.data }, { on := 5, ground := Ground.guard }], guard := some (5, true) }) (v := .pointer (some ⟨p, 4, none⟩)) rfl (by kernel_rfl) (by kernel_rfl) (by kernel_rfl) (fun _ _ _ h => h) (Or.inl ⟨by rfl, fun W hW => ?_⟩) hSw ?_
        · first | (go_simp; done) | rfl
        try simp only [Act.put, List.setIfInBounds_toArray, List.set_cons_zero, List.set_cons_succ]
        refine wpAnyH_take (i := 9) (oi := { dst := some 32, op := Op.load 35 (Operand.tmp 31), type := 35, pos := "thread.go:75", after := #[{ on := 8, ground := Ground.data }, { on := 5, ground := Ground.guard }], guard := some (5, true) }) (v := .slice (some ⟨rg, 0, none⟩) NR NR) rfl (by kernel_rfl) (by kernel_rfl) (by kernel_rfl) (fun _ _ _ h => h) (Or.inl ⟨by rfl, fun W hW => ?_⟩) hSw ?_
        · have d4 := hW.cell (by dsimp only; omega) d4
          first | (go_simp; done) | rfl
        try simp only [Act.put, List.setIfInBounds_toArray, List.set_cons_zero, List.set_cons_succ]
        refine wpAnyH_take (i := 10) (oi := { dst := some 33, op := Op.move (Operand.tmp 1), type := 105, pos := "thread.go:75", after := #[{ on := 5, ground := Ground.guard }], guard := some (5, true) }) (v := .pointer (some ⟨bg, off, none⟩)) rfl (by kernel_rfl) (by kernel_rfl) (by kernel_rfl) (fun _ _ _ h => h) (Or.inl ⟨by rfl, fun W hW => ?_⟩) hSw ?_
        · first | (go_simp; done) | rfl
        try simp only [Act.put, List.setIfInBounds_toArray, List.set_cons_zero, List.set_cons_succ]
        refine wpAnyH_take (i := 11) (oi := { dst := some 34, op := Op.nilCheck (Operand.tmp 33), type := 0, pos := "thread.go:75", after := #[{ on := 10, ground := Ground.data }, { on := 5, ground := Ground.guard }], guard := some (5, true) }) (v := .pointer (some ⟨bg, off, none⟩)) rfl (by kernel_rfl) (by kernel_rfl) (by kernel_rfl) (fun _ _ _ h => h) (Or.inl ⟨by rfl, fun W hW => ?_⟩) hSw ?_
        · first | (go_simp; done) | rfl
        try simp only [Act.put, List.setIfInBounds_toArray, List.set_cons_zero, List.set_cons_succ]
        refine wpAnyH_take (i := 12) (oi := { dst := some 35, op := Op.fieldAddr 49 (Operand.tmp 34) 2, type := 0, pos := "thread.go:75", after := #[{ on := 11, ground := Ground.data }, { on := 5, ground := Ground.guard }], guard := some (5, true) }) (v := .pointer (some ⟨bg, off + 2, none⟩)) rfl (by kernel_rfl) (by kernel_rfl) (by kernel_rfl) (fun _ _ _ h => h) (Or.inl ⟨by rfl, fun W hW => ?_⟩) hSw ?_
        · first | (go_simp; done) | rfl
        try simp only [Act.put, List.setIfInBounds_toArray, List.set_cons_zero, List.set_cons_succ]
        refine wpAnyH_take (i := 13) (oi := { dst := some 36, op := Op.load 3 (Operand.tmp 35), type := 3, pos := "thread.go:75", after := #[{ on := 12, ground := Ground.data }, { on := 5, ground := Ground.guard }], guard := some (5, true) }) (v := .int .i64 (rn : Int)) rfl (by kernel_rfl) (by kernel_rfl) (by kernel_rfl) (fun _ _ _ h => h) (Or.inl ⟨by rfl, fun W hW => ?_⟩) hSw ?_
        · have k2 := hW.cell (by dsimp only; omega) k2
          first | (go_simp; done) | rfl
        try simp only [Act.put, List.setIfInBounds_toArray, List.set_cons_zero, List.set_cons_succ]
        refine wpAnyH_take (i := 14) (oi := { dst := some 37, op := Op.indexAddr 35 (Operand.tmp 32) (Operand.tmp 36), type := 0, pos := "thread.go:75", after := #[{ on := 9, ground := Ground.data }, { on := 13, ground := Ground.data }, { on := 5, ground := Ground.guard }], guard := some (5, true) }) (v := .pointer (some ⟨rg, rn, none⟩)) rfl (by kernel_rfl) (by kernel_rfl) (by kernel_rfl) (fun _ _ _ h => h) (Or.inl ⟨by rfl, fun W hW => ?_⟩) hSw ?_
        · first | (go_simp; done) | rfl
        try simp only [Act.put, List.setIfInBounds_toArray, List.set_cons_zero, List.set_cons_succ]
        refine wpAnyH_take (i := 15) (oi := { dst := some 38, op := Op.load 2 (Operand.tmp 37), type := 2, pos := "thread.go:75", after := #[{ on := 14, ground := Ground.data }, { on := 5, ground := Ground.guard }], guard := some (5, true) }) (v := .int .i64 z) rfl (by kernel_rfl) (by kernel_rfl) (by kernel_rfl) (fun _ _ _ h => h) (Or.inl ⟨by rfl, fun W hW => ?_⟩) hSw ?_
        · have s0 := hW.cell (by dsimp only; omega) s0
          first | (go_simp; done) | rfl
        try simp only [Act.put, List.setIfInBounds_toArray, List.set_cons_zero, List.set_cons_succ]
        refine wpAnyH_take (i := 16) (oi := { dst := some 39, op := Op.binOp BinOp.eql 2 (Operand.tmp 38) (Operand.const (Value.int IntKind.i64 0)) 2, type := 4, pos := "thread.go:75", after := #[{ on := 15, ground := Ground.data }, { on := 5, ground := Ground.guard }], guard := some (5, true) }) (v := .bool false) rfl (by kernel_rfl) (by kernel_rfl) (by kernel_rfl) (fun _ _ _ h => h) (Or.inl ⟨by rfl, fun W hW => ?_⟩) hSw ?_
        · first | (go_simp; done) | rfl
        try simp only [Act.put, List.setIfInBounds_toArray, List.set_cons_zero, List.set_cons_succ]
        refine wpAnyH_take (i := 17) (oi := { dst := some 40, op := Op.pick (Operand.tmp 28) (Operand.tmp 39) (Operand.const (Value.bool false)), type := 4, pos := "thread.go:75", after := #[{ on := 5, ground := Ground.data }, { on := 16, ground := Ground.data }], guard := none }) (v := .bool false) rfl (by kernel_rfl) (by kernel_rfl) (by kernel_rfl) (fun _ _ _ h => h) (Or.inl ⟨by rfl, fun W hW => ?_⟩) hSw ?_
        · first | (go_simp; done) | rfl
        try simp only [Act.put, List.setIfInBounds_toArray, List.set_cons_zero, List.set_cons_succ]
        refine wpAnyH_take (i := 18) (oi := { dst := some 22, op := Op.assign (Operand.tmp 40), type := 4, pos := "thread.go:75", after := #[{ on := 17, ground := Ground.data }, { on := 5, ground := Ground.chain }], guard := none }) (v := .bool false) rfl (by kernel_rfl) (by kernel_rfl) (by kernel_rfl) (fun _ _ _ h => h) (Or.inl ⟨by rfl, fun W hW => ?_⟩) hSw ?_
        · first | (go_simp; done) | rfl
        try simp only [Act.put, List.setIfInBounds_toArray, List.set_cons_zero, List.set_cons_succ]
        refine wpAnyH_done (by kernel_rfl) ?_ _
        go_wp2_with fail
        go_ret
        exact spot_end (below_drewN' (Below.refl _ _)) (H1.out.keeps (But.of (ls := []) (below_drewN' (Below.refl _ _))) (.refl _ _) (by simp) (by simp)) (H2.out.keeps (But.of (ls := []) (below_drewN' (Below.refl _ _))) (.refl _ _) (by simp)) Yn 0 rfl false
    · have hl : lastT T ⟨iv, ins, L, R, (Yn : Int), NO⟩ = ({ T with bi := Yn, ii := 0 }, false) := by simp [lastT, h3, h2']
      rw [hl]
      have hz1 := eq2_of L 2 h2'
      clear hl hr hy hn her h3 h2'
      go_enter Try.func59, Try.ntmps59
      go_wp2_with fail
      refine wp_region_held_drew (S := SameTo (w.heap.size) w) (by kernel_rfl) (SameTo.drew _ _) (fun hSw => ?_)
      refine wpAnyH_take (i := 0) (oi := { dst := some 23, op := Op.move (Operand.tmp 1), type := 105, pos := "thread.go:75", after := #[], guard := none }) (v := .pointer (some ⟨bg, off, none⟩)) rfl (by kernel_rfl) (by kernel_rfl) (by kernel_rfl) (fun _ _ _ h => h) (Or.inl ⟨by rfl, fun W hW => ?_⟩) hSw ?_
      · first | (go_simp; done) | rfl
      try simp only [Act.put, List.setIfInBounds_toArray, List.set_cons_zero, List.set_cons_succ]
      refine wpAnyH_take (i := 1) (oi := { dst := some 24, op := Op.nilCheck (Operand.tmp 23), type := 0, pos := "thread.go:75", after := #[{ on := 0, ground := Ground.data }], guard := none }) (v := .pointer (some ⟨bg, off, none⟩)) rfl (by kernel_rfl) (by kernel_rfl) (by kernel_rfl) (fun _ _ _ h => h) (Or.inl ⟨by rfl, fun W hW => ?_⟩) hSw ?_
      · first | (go_simp; done) | rfl
      try simp only [Act.put, List.setIfInBounds_toArray, List.set_cons_zero, List.set_cons_succ]
      refine wpAnyH_take (i := 2) (oi := { dst := some 25, op := Op.fieldAddr 49 (Operand.tmp 24) 1, type := 0, pos := "thread.go:75", after := #[{ on := 1, ground := Ground.data }], guard := none }) (v := .pointer (some ⟨bg, off + 1, none⟩)) rfl (by kernel_rfl) (by kernel_rfl) (by kernel_rfl) (fun _ _ _ h => h) (Or.inl ⟨by rfl, fun W hW => ?_⟩) hSw ?_
      · first | (go_simp; done) | rfl
      try simp only [Act.put, List.setIfInBounds_toArray, List.set_cons_zero, List.set_cons_succ]
      refine wpAnyH_take (i := 3) (oi := { dst := some 26, op := Op.load 47 (Operand.tmp 25), type := 47, pos := "thread.go:75", after := #[{ on := 2, ground := Ground.data }], guard := none }) (v := .int .u8 L) rfl (by kernel_rfl) (by kernel_rfl) (by kernel_rfl) (fun _ _ _ h => h) (Or.inl ⟨by rfl, fun W hW => ?_⟩) hSw ?_
      · have k1 := hW.cell (by dsimp only; omega) k1
        first | (go_simp; done) | rfl
      try simp only [Act.put, List.setIfInBounds_toArray, List.set_cons_zero, List.set_cons_succ]
      refine wpAnyH_take (i := 4) (oi := { dst := some 27, op := Op.binOp BinOp.eql 47 (Operand.tmp 26) (Operand.const (Value.int IntKind.u8 2)) 47, type := 4, pos := "thread.go:75", after := #[{ on := 3, ground := Ground.data }], guard := none }) (v := .bool false) rfl (by kernel_rfl) (by kernel_rfl) (by kernel_rfl) (fun _ _ _ h => h) (Or.inl ⟨by rfl, fun W hW => ?_⟩) hSw ?_
      · first | (go_simp; done) | rfl
      try simp only [Act.put, List.setIfInBounds_toArray, List.set_cons_zero, List.set_cons_succ]
      refine wpAnyH_take (i := 5) (oi := { dst := some 28, op := Op.move (Operand.tmp 27), type := 4, pos := "thread.go:75", after := #[{ on := 4, ground := Ground.data }], guard := none }) (v := .bool false) rfl (by kernel_rfl) (by kernel_rfl) (by kernel_rfl) (fun _ _ _ h => h) (Or.inl ⟨by rfl, fun W hW => ?_⟩) hSw ?_
      · first | (go_simp; done) | rfl
      try simp only [Act.put, List.setIfInBounds_toArray, List.set_cons_zero, List.set_cons_succ]
      refine wpAnyH_take (i := 6) (oi := { dst := some 29, op := Op.move (Operand.tmp 0), type := 63, pos := "thread.go:75", after := #[{ on := 5, ground := Ground.guard }], guard := some (5, true) }) (v := undef) rfl (by kernel_rfl) (by kernel_rfl) (by kernel_rfl) (fun _ _ _ h => h) (Or.inr ⟨by rfl, rfl⟩) hSw ?_
      try simp only [Act.put, List.setIfInBounds_toArray, List.set_cons_zero, List.set_cons_succ]
      refine wpAnyH_take (i := 7) (oi := { dst := some 30, op := Op.nilCheck (Operand.tmp 29), type := 0, pos := "thread.go:75", after := #[{ on := 6, ground := Ground.data }, { on := 5, ground := Ground.guard }], guard := some (5, true) }) (v := undef) rfl (by kernel_rfl) (by kernel_rfl) (by kernel_rfl) (fun _ _ _ h => h) (Or.inr ⟨by rfl, rfl⟩) hSw ?_
      try simp only [Act.put, List.setIfInBounds_toArray, List.set_cons_zero, List.set_cons_succ]
      refine wpAnyH_take (i := 8) (oi := { dst := some 31, op := Op.fieldAddr 80 (Operand.tmp 30) 2, type := 0, pos := "thread.go:75", after := #[{ on := 7, ground := Ground.data }, { on := 5, ground := Ground.guard }], guard := some (5, true) }) (v := undef) rfl (by kernel_rfl) (by kernel_rfl) (by kernel_rfl) (fun _ _ _ h => h) (Or.inr ⟨by rfl, rfl⟩) hSw ?_
      try simp only [Act.put, List.setIfInBounds_toArray, List.set_cons_zero, List.set_cons_succ]
      refine wpAnyH_take (i := 9) (oi := { dst := some 32, op := Op.load 35 (Operand.tmp 31), type := 35, pos := "thread.go:75", after := #[{ on := 8, ground := Ground.data }, { on := 5, ground := Ground.guard }], guard := some (5, true) }) (v := undef) rfl (by kernel_rfl) (by kernel_rfl) (by kernel_rfl) (fun _ _ _ h => h) (Or.inr ⟨by rfl, rfl⟩) hSw ?_
      try simp only [Act.put, List.setIfInBounds_toArray, List.set_cons_zero, List.set_cons_succ]
      refine wpAnyH_take (i := 10) (oi := { dst := some 33, op := Op.move (Operand.tmp 1), type := 105, pos := "thread.go:75", after := #[{ on := 5, ground := Ground.guard }], guard := some (5, true) }) (v := undef) rfl (by kernel_rfl) (by kernel_rfl) (by kernel_rfl) (fun _ _ _ h => h) (Or.inr ⟨by rfl, rfl⟩) hSw ?_
      try simp only [Act.put, List.setIfInBounds_toArray, List.set_cons_zero, List.set_cons_succ]
      refine wpAnyH_take (i := 11) (oi := { dst := some 34, op := Op.nilCheck (Operand.tmp 33), type := 0, pos := "thread.go:75", after := #[{ on := 10, ground := Ground.data }, { on := 5, ground := Ground.guard }], guard := some (5, true) }) (v := undef) rfl (by kernel_rfl) (by kernel_rfl) (by kernel_rfl) (fun _ _ _ h => h) (Or.inr ⟨by rfl, rfl⟩) hSw ?_
      try simp only [Act.put, List.setIfInBounds_toArray, List.set_cons_zero, List.set_cons_succ]
      refine wpAnyH_take (i := 12) (oi := { dst := some 35, op := Op.fieldAddr 49 (Operand.tmp 34) 2, type := 0, pos := "thread.go:75", after := #[{ on := 11, ground := Ground.data }, { on := 5, ground := Ground.guard }], guard := some (5, true) }) (v := undef) rfl (by kernel_rfl) (by kernel_rfl) (by kernel_rfl) (fun _ _ _ h => h) (Or.inr ⟨by rfl, rfl⟩) hSw ?_
      try simp only [Act.put, List.setIfInBounds_toArray, List.set_cons_zero, List.set_cons_succ]
      refine wpAnyH_take (i := 13) (oi := { dst := some 36, op := Op.load 3 (Operand.tmp 35), type := 3, pos := "thread.go:75", after := #[{ on := 12, ground := Ground.data }, { on := 5, ground := Ground.guard }], guard := some (5, true) }) (v := undef) rfl (by kernel_rfl) (by kernel_rfl) (by kernel_rfl) (fun _ _ _ h => h) (Or.inr ⟨by rfl, rfl⟩) hSw ?_
      try simp only [Act.put, List.setIfInBounds_toArray, List.set_cons_zero, List.set_cons_succ]
      refine wpAnyH_take (i := 14) (oi := { dst := some 37, op := Op.indexAddr 35 (Operand.tmp 32) (Operand.tmp 36), type := 0, pos := "thread.go:75", after := #[{ on := 9, ground := Ground.data }, { on := 13, ground := Ground.data }, { on := 5, ground := Ground.guard }], guard := some (5, true) }) (v := undef) rfl (by kernel_rfl) (by kernel_rfl) (by kernel_rfl) (fun _ _ _ h => h) (Or.inr ⟨by rfl, rfl⟩) hSw ?_
      try simp only [Act.put, List.setIfInBounds_toArray, List.set_cons_zero, List.set_cons_succ]
      refine wpAnyH_take (i := 15) (oi := { dst := some 38, op := Op.load 2 (Operand.tmp 37), type := 2, pos := "thread.go:75", after := #[{ on := 14, ground := Ground.data }, { on := 5, ground := Ground.guard }], guard := some (5, true) }) (v := undef) rfl (by kernel_rfl) (by kernel_rfl) (by kernel_rfl) (fun _ _ _ h => h) (Or.inr ⟨by rfl, rfl⟩) hSw ?_
      try simp only [Act.put, List.setIfInBounds_toArray, List.set_cons_zero, List.set_cons_succ]
      refine wpAnyH_take (i := 16) (oi := { dst := some 39, op := Op.binOp BinOp.eql 2 (Operand.tmp 38) (Operand.const (Value.int IntKind.i64 0)) 2, type := 4, pos := "thread.go:75", after := #[{ on := 15, ground := Ground.data }, { on := 5, ground := Ground.guard }], guard := some (5, true) }) (v := undef) rfl (by kernel_rfl) (by kernel_rfl) (by kernel_rfl) (fun _ _ _ h => h) (Or.inr ⟨by rfl, rfl⟩) hSw ?_
      try simp only [Act.put, List.setIfInBounds_toArray, List.set_cons_zero, List.set_cons_succ]
      refine wpAnyH_take (i := 17) (oi := { dst := some 40, op := Op.pick (Operand.tmp 28) (Operand.tmp 39) (Operand.const (Value.bool false)), type := 4, pos := "thread.go:75", after := #[{ on := 5, ground := Ground.data }, { on := 16, ground := Ground.data }], guard := none }) (v := .bool false) rfl (by kernel_rfl) (by kernel_rfl) (by kernel_rfl) (fun _ _ _ h => h) (Or.inl ⟨by rfl, fun W hW => ?_⟩) hSw ?_
      · first | (go_simp; done) | rfl
      try simp only [Act.put, List.setIfInBounds_toArray, List.set_cons_zero, List.set_cons_succ]
      refine wpAnyH_take (i := 18) (oi := { dst := some 22, op := Op.assign (Operand.tmp 40), type := 4, pos := "thread.go:75", after := #[{ on := 17, ground := Ground.data }, { on := 5, ground := Ground.chain }], guard := none }) (v := .bool false) rfl (by kernel_rfl) (by kernel_rfl) (by kernel_rfl) (fun _ _ _ h => h) (Or.inl ⟨by rfl, fun W hW => ?_⟩) hSw ?_
      · first | (go_simp; done) | rfl
      try simp only [Act.put, List.setIfInBounds_toArray, List.set_cons_zero, List.set_cons_succ]
      refine wpAnyH_done (by kernel_rfl) ?_ _
      go_wp2_with fail
      go_ret
      exact spot_end (below_drewN' (Below.refl _ _)) (H1.out.keeps (But.of (ls := []) (below_drewN' (Below.refl _ _))) (.refl _ _) (by simp) (by simp)) (H2.out.keeps (But.of (ls := []) (below_drewN' (Below.refl _ _))) (.refl _ _) (by simp)) Yn 0 rfl false
end Go.Proofs.Ytijciojipcgiaaa
