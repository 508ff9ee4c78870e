/- New words, and loads. -/
import Derived.Test.YtijciojipcgiaaaRows
import Derived.Test.YtijciojipcgiaaaWkHold
import Derived.Test.YtijciojipcgiaaaWkPush
import Derived.Test.YtijciojipcgiaaaIrSizes
import Derived.Test.YtijciojipcgiaaaIrBoth
import Derived.Test.YtijciojipcgiaaaWkBack
import Derived.LoopTactic
import Derived.LoopN
import Derived.WalkKit
import Derived.WalkSpells
import Derived.WalkLawsBesides
import Derived.Lib.Hide
import Derived.OrdersHeld
import Derived.Deep.RegionHeld
import Derived.Deep.DrawnRows
import Derived.RegionTactic
import Derived.Deep.RegionHeld3
import Derived.IntWalk
namespace Go.Proofs.Ytijciojipcgiaaa
open Go.RowKit
set_option maxRecDepth 100000
attribute [local go_sem ↓] bld_eq bls_eq

set_option maxHeartbeats 8000000 in
theorem made_z (ow : Nat → Nat) (w : World) (b j p n : Nat) (g : Gr) (W : WS) (T : TS) (v rs us ts ws : Value) (k o : Int) (a m : Nat) (bb cc : Int) (h1 : WAt ow w b W n v) (h2 : TAt ow w b j p g T rs us ts ws) (hl0 : ∀ k, w.heap.size ≤ k → ow k = 0) (ha : a < T.regs.length) (hm : m ≤ 64) (hok : UOk T.undo T.since W.words.length) (hu : T.undo.length ≤ 1048576) :
    Calls Try.prog 34 #[.pointer (some ⟨p, 0, none⟩), .agg #[.int .u8 k, .int .u8 o, .int .i64 (a : Int), .int .i64 bb, .int .i64 cc, .int .i64 (m : Int)]] w (StepE ow b j p g n (if 65536 < (W.words.length : Int) - 1 + (m : Int) then failT W T 5 else ({ W with words := W.words ++ List.replicate m 0 }, T.setR (a : Int) (W.words.length : Int), false)) w) := by
  obtain ⟨rg, er, hrg, hrl⟩ := h2.regs
  have her := er
  obtain ⟨U, hU⟩ : ∃ U, U = w.alloc (.cells #[.int .u8 k, .int .u8 o, .int .i64 (a : Int), .int .i64 bb, .int .i64 cc, .int .i64 (m : Int)] 53) := ⟨_, rfl⟩
  have hBU : Below w.heap.size w U := by rw [hU]; exact below_box w _
  have hzU : U.heap.size = w.heap.size + 1 := by rw [hU]; simp
  have hO : U.heap[w.heap.size]? = some (.cells #[.int .u8 k, .int .u8 o, .int .i64 (a : Int), .int .i64 bb, .int .i64 cc, .int .i64 (m : Int)] 53 (0, 0)) := by rw [hU]; exact (MapKept.heap_alloc _ _).1
  have h1U := h1.keeps (But.of (ls := []) hBU) (.refl _ _) (by simp) (by simp)
  have h2U := h2.keeps (But.of (ls := []) hBU) (.refl _ _) (by simp)
  have hlp : p < w.heap.size := heap_lt h2.box
  have hlb : b < w.heap.size := heap_lt h1.box
  have hlr : rg < w.heap.size := heap_lt hrg
  have hrgU := (hBU.block rg hlr).trans hrg
  obtain ⟨d0, d3, d4, d5, d6, d7, d8, d9, d10, d11, d12⟩ := h2U.cells
  obtain ⟨e0, e1, e2⟩ := h1U.cells
  rw [her] at d4
  obtain ⟨i0, i1, i2, i3, i4, i5⟩ := own6 hO
  have fr := fun (q : Nat) => Lib.frozen_of_heap hrgU q
  obtain ⟨NR, hNR⟩ : ∃ N, N = T.regs.length := ⟨_, rfl⟩
  have hax : a < NR := by rw [hNR]; exact ha
  have HFA := Lib.hid (fun (u : World) (hb : Below U.heap.size U u) => fails_any ow u b j p n g W T v rs us ts ws 5 (h1U.keeps (But.of (ls := []) hb) (.refl _ _) (by simp) (by simp)) (h2U.keeps (But.of (ls := []) hb) (.refl _ _) (by simp)) hok hu)
  have hlabp := h2.lab
  have HL0 := Lib.hid (hl0 w.heap.size (Nat.le_refl _))
  have HRL := Lib.hid hrl
  have f0 := fr a
  obtain ⟨y, hy⟩ : ∃ y, T.regs[a]? = some y := ⟨_, List.getElem?_eq_getElem ha⟩
  have s0 := wds_cell hrgU a y hy
  have H1 := Lib.hid h1U
  have H2 := Lib.hid h2U
  have HB := Lib.hid hBU
  have HU := Lib.hid hU
  have HER := Lib.hid her
  rw [← hNR] at d4
  have HNR := Lib.hid hNR
  clear d3 d5 d6 d7 d8 d9 d10 d11 d12 e0 e1 e2
  clear h1 h2 h1U h2U hBU hO hrg hrgU hrl er her hU hNR ha fr hok hu hl0 hy
  by_cases hlt : 65536 < (W.words.length : Int) - 1 + (m : Int)
  · rw [if_pos hlt]
    go_enter Try.func34, Try.ntmps34
    go_wp2_with fail
    rw [← HU.out]
    refine wp_region_held_drew (S := SameOn (fun k => k = p ∨ k = w.heap.size) U) (by kernel_rfl) (SameOn.drew _ _) (fun hSw => ?_)
    refine wpAnyH_take (i := 0) (oi := { dst := some 8, op := Op.move (Operand.tmp 0), type := 63, pos := "deeds.go:66", after := #[], guard := none }) (v := .pointer (some ⟨p, 0, none⟩)) rfl (by kernel_rfl) (by kernel_rfl) (by kernel_rfl) (fun _ _ _ h => h) (Or.inl ⟨by rfl, fun W hW => ?_⟩) hSw ?_
    · first | (go_simp; done) | rfl
    try simp only [Act.put, List.setIfInBounds_toArray, List.set_cons_zero, List.set_cons_succ]
    refine wpAnyH_take (i := 1) (oi := { dst := some 9, op := Op.nilCheck (Operand.tmp 8), type := 0, pos := "deeds.go:66", after := #[{ on := 0, ground := Ground.data }], guard := none }) (v := .pointer (some ⟨p, 0, none⟩)) rfl (by kernel_rfl) (by kernel_rfl) (by kernel_rfl) (fun _ _ _ h => h) (Or.inl ⟨by rfl, fun W hW => ?_⟩) hSw ?_
    · first | (go_simp; done) | rfl
    try simp only [Act.put, List.setIfInBounds_toArray, List.set_cons_zero, List.set_cons_succ]
    refine wpAnyH_take (i := 2) (oi := { dst := some 10, op := Op.fieldAddr 80 (Operand.tmp 9) 0, type := 0, pos := "deeds.go:66", after := #[{ on := 1, ground := Ground.data }], guard := none }) (v := .pointer (some ⟨p, 0, none⟩)) rfl (by kernel_rfl) (by kernel_rfl) (by kernel_rfl) (fun _ _ _ h => h) (Or.inl ⟨by rfl, fun W hW => ?_⟩) hSw ?_
    · first | (go_simp; done) | rfl
    try simp only [Act.put, List.setIfInBounds_toArray, List.set_cons_zero, List.set_cons_succ]
    refine wpAnyH_take (i := 3) (oi := { dst := some 11, op := Op.load 59 (Operand.tmp 10), type := 59, pos := "deeds.go:66", after := #[{ on := 2, ground := Ground.data }], guard := none }) (v := .pointer (some ⟨b, 0, none⟩)) rfl (by kernel_rfl) (by kernel_rfl) (by kernel_rfl) (fun _ _ _ h => h) (Or.inl ⟨by rfl, fun W hW => ?_⟩) hSw ?_
    · have d0 := hW.cell (by dsimp only; omega) d0
      first | (go_simp; done) | rfl
    try simp only [Act.put, List.setIfInBounds_toArray, List.set_cons_zero, List.set_cons_succ]
    refine wpAnyH_take (i := 4) (oi := { dst := some 12, op := Op.fieldAddr 53 (Operand.tmp 3) 5, type := 0, pos := "deeds.go:66", after := #[], guard := none }) (v := .pointer (some ⟨w.heap.size, 5, none⟩)) rfl (by kernel_rfl) (by kernel_rfl) (by kernel_rfl) (fun _ _ _ h => h) (Or.inl ⟨by rfl, fun W hW => ?_⟩) hSw ?_
    · first | (go_simp; done) | rfl
    try simp only [Act.put, List.setIfInBounds_toArray, List.set_cons_zero, List.set_cons_succ]
    refine wpAnyH_take (i := 5) (oi := { dst := some 13, op := Op.load 2 (Operand.tmp 12), type := 2, pos := "deeds.go:66", after := #[{ on := 4, ground := Ground.data }], guard := none }) (v := .int .i64 (m : Int)) rfl (by kernel_rfl) (by kernel_rfl) (by kernel_rfl) (fun _ _ _ h => h) (Or.inl ⟨by rfl, fun W hW => ?_⟩) hSw ?_
    · have i5 := hW.cell (by dsimp only; omega) i5
      first | (go_simp; done) | rfl
    try simp only [Act.put, List.setIfInBounds_toArray, List.set_cons_zero, List.set_cons_succ]
    refine wpAnyH_ready (rs := [6]) (by kernel_rfl) (by simp) ?_
    refine AllReadyH.cons (o := { dst := some 14, op := Op.call { callee := Callee.value (Operand.func 54), args := #[Operand.tmp 11, Operand.tmp 13], argTypes := #[59, 2] }, type := 101, pos := "deeds.go:66", after := #[{ on := 3, ground := Ground.data }, { on := 5, ground := Ground.data }], guard := none }) rfl (fun K hK => ?_) AllReadyH.nil
    rw [if_pos (by rfl)]
    clear hSw
    go_simp
    refine (makes_no ow U.drew b n m W v (H1.out.keeps (But.of (ls := []) (below_drewN' (Below.refl _ _))) (.refl _ _) (by simp) (by simp)) hm hlt).mono ?_; rintro e w2 ⟨rfl, rfl⟩
    refine hK.out _ _ (SameOn.drew _ _) (fun hSw => ?_)
    clear hK K
    try simp only [Act.put, List.setIfInBounds_toArray, List.set_cons_zero, List.set_cons_succ]
    refine wpAnyH_take (i := 7) (oi := { dst := some 7, op := Op.move (Operand.tmp 14), type := 101, pos := "deeds.go:66", after := #[{ on := 6, ground := Ground.data }], guard := none }) (v := .tuple #[.int .i64 0, .bool false]) rfl (by kernel_rfl) (by kernel_rfl) (by kernel_rfl) (fun _ _ _ h => h) (Or.inl ⟨by rfl, fun W hW => ?_⟩) hSw ?_
    · first | (go_simp; done) | rfl
    try simp only [Act.put, List.setIfInBounds_toArray, List.set_cons_zero, List.set_cons_succ]
    refine wpAnyH_take (i := 8) (oi := { dst := some 15, op := Op.extract (Operand.tmp 7) 0, type := 2, pos := "deeds.go:66", after := #[{ on := 7, ground := Ground.data }], guard := none }) (v := .int .i64 0) rfl (by kernel_rfl) (by kernel_rfl) (by kernel_rfl) (fun _ _ _ h => h) (Or.inl ⟨by rfl, fun W hW => ?_⟩) hSw ?_
    · first | (go_simp; done) | rfl
    try simp only [Act.put, List.setIfInBounds_toArray, List.set_cons_zero, List.set_cons_succ]
    refine wpAnyH_take (i := 9) (oi := { dst := some 16, op := Op.extract (Operand.tmp 7) 1, type := 4, pos := "deeds.go:66", after := #[{ on := 7, ground := Ground.data }, { on := 10, ground := Ground.gcOnly Departure.lateStores }], guard := none }) (v := .bool false) rfl (by kernel_rfl) (by kernel_rfl) (by kernel_rfl) (fun _ _ _ h => h) (Or.inl ⟨by rfl, fun W hW => ?_⟩) hSw ?_
    · first | (go_simp; done) | rfl
    try simp only [Act.put, List.setIfInBounds_toArray, List.set_cons_zero, List.set_cons_succ]
    refine wpAnyH_take (i := 10) (oi := { dst := some 5, op := Op.assign (Operand.tmp 15), type := 2, pos := "deeds.go:66", after := #[{ on := 8, ground := Ground.data }, { on := 6, ground := Ground.chain }, { on := 0, ground := Ground.phase }, { on := 1, ground := Ground.phase }, { on := 2, ground := Ground.phase }, { on := 3, ground := Ground.phase }, { on := 4, ground := Ground.phase }, { on := 5, ground := Ground.phase }, { on := 6, ground := Ground.phase }, { on := 7, ground := Ground.phase }, { on := 8, ground := Ground.phase }, { on := 9, ground := Ground.textOnly Departure.lateStores }], guard := none }) (v := .int .i64 0) rfl (by kernel_rfl) (by kernel_rfl) (by kernel_rfl) (fun _ _ _ h => h) (Or.inl ⟨by rfl, fun W hW => ?_⟩) hSw ?_
    · first | (go_simp; done) | rfl
    try simp only [Act.put, List.setIfInBounds_toArray, List.set_cons_zero, List.set_cons_succ]
    refine wpAnyH_take (i := 11) (oi := { dst := some 6, op := Op.assign (Operand.tmp 16), type := 4, pos := "deeds.go:66", after := #[{ on := 9, ground := Ground.data }, { on := 10, ground := Ground.chain }, { on := 0, ground := Ground.phase }, { on := 1, ground := Ground.phase }, { on := 2, ground := Ground.phase }, { on := 3, ground := Ground.phase }, { on := 4, ground := Ground.phase }, { on := 5, ground := Ground.phase }, { on := 6, ground := Ground.phase }, { on := 7, ground := Ground.phase }, { on := 8, ground := Ground.phase }, { on := 9, ground := Ground.phase }, { on := 10, ground := Ground.phase }], guard := none }) (v := .bool false) rfl (by kernel_rfl) (by kernel_rfl) (by kernel_rfl) (fun _ _ _ h => h) (Or.inl ⟨by rfl, fun W hW => ?_⟩) hSw ?_
    · first | (go_simp; done) | rfl
    try simp only [Act.put, List.setIfInBounds_toArray, List.set_cons_zero, List.set_cons_succ]
    refine wpAnyH_done (by kernel_rfl) ?_ _
    go_wp2_with fail
    refine (HFA.out U.drew (below_drewN' (Below.refl _ _))).mono ?_; rintro e w2 hE
    obtain ⟨rfl, hR⟩ := (show e = .returned (.bool true) ∧ StepE ow b j p g n (failT W T 5) U.drew e w2 from ⟨hE.1, hE⟩)
    have HR := Lib.hid hR
    clear hE hR
    go_wp2_with fail
    go_ret
    exact ((HR.out.from (below_drewN' (Below.refl _ _))).from HB.out)
  · rw [if_neg hlt]
    go_enter Try.func34, Try.ntmps34
    go_wp2_with fail
    rw [← HU.out]
    refine wp_region_held_drew (S := SameOn (fun k => k = p ∨ k = w.heap.size) U) (by kernel_rfl) (SameOn.drew _ _) (fun hSw => ?_)
    refine wpAnyH_take (i := 0) (oi := { dst := some 8, op := Op.move (Operand.tmp 0), type := 63, pos := "deeds.go:66", after := #[], guard := none }) (v := .pointer (some ⟨p, 0, none⟩)) rfl (by kernel_rfl) (by kernel_rfl) (by kernel_rfl) (fun _ _ _ h => h) (Or.inl ⟨by rfl, fun W hW => ?_⟩) hSw ?_
    · first | (go_simp; done) | rfl
    try simp only [Act.put, List.setIfInBounds_toArray, List.set_cons_zero, List.set_cons_succ]
    refine wpAnyH_take (i := 1) (oi := { dst := some 9, op := Op.nilCheck (Operand.tmp 8), type := 0, pos := "deeds.go:66", after := #[{ on := 0, ground := Ground.data }], guard := none }) (v := .pointer (some ⟨p, 0, none⟩)) rfl (by kernel_rfl) (by kernel_rfl) (by kernel_rfl) (fun _ _ _ h => h) (Or.inl ⟨by rfl, fun W hW => ?_⟩) hSw ?_
    · first | (go_simp; done) | rfl
    try simp only [Act.put, List.setIfInBounds_toArray, List.set_cons_zero, List.set_cons_succ]
    refine wpAnyH_take (i := 2) (oi := { dst := some 10, op := Op.fieldAddr 80 (Operand.tmp 9) 0, type := 0, pos := "deeds.go:66", after := #[{ on := 1, ground := Ground.data }], guard := none }) (v := .pointer (some ⟨p, 0, none⟩)) rfl (by kernel_rfl) (by kernel_rfl) (by kernel_rfl) (fun _ _ _ h => h) (Or.inl ⟨by rfl, fun W hW => ?_⟩) hSw ?_
    · first | (go_simp; done) | rfl
    try simp only [Act.put, List.setIfInBounds_toArray, List.set_cons_zero, List.set_cons_succ]
    refine wpAnyH_take (i := 3) (oi := { dst := some 11, op := Op.load 59 (Operand.tmp 10), type := 59, pos := "deeds.go:66", after := #[{ on := 2, ground := Ground.data }], guard := none }) (v := .pointer (some ⟨b, 0, none⟩)) rfl (by kernel_rfl) (by kernel_rfl) (by kernel_rfl) (fun _ _ _ h => h) (Or.inl ⟨by rfl, fun W hW => ?_⟩) hSw ?_
    · have d0 := hW.cell (by dsimp only; omega) d0
      first | (go_simp; done) | rfl
    try simp only [Act.put, List.setIfInBounds_toArray, List.set_cons_zero, List.set_cons_succ]
    refine wpAnyH_take (i := 4) (oi := { dst := some 12, op := Op.fieldAddr 53 (Operand.tmp 3) 5, type := 0, pos := "deeds.go:66", after := #[], guard := none }) (v := .pointer (some ⟨w.heap.size, 5, none⟩)) rfl (by kernel_rfl) (by kernel_rfl) (by kernel_rfl) (fun _ _ _ h => h) (Or.inl ⟨by rfl, fun W hW => ?_⟩) hSw ?_
    · first | (go_simp; done) | rfl
    try simp only [Act.put, List.setIfInBounds_toArray, List.set_cons_zero, List.set_cons_succ]
    refine wpAnyH_take (i := 5) (oi := { dst := some 13, op := Op.load 2 (Operand.tmp 12), type := 2, pos := "deeds.go:66", after := #[{ on := 4, ground := Ground.data }], guard := none }) (v := .int .i64 (m : Int)) rfl (by kernel_rfl) (by kernel_rfl) (by kernel_rfl) (fun _ _ _ h => h) (Or.inl ⟨by rfl, fun W hW => ?_⟩) hSw ?_
    · have i5 := hW.cell (by dsimp only; omega) i5
      first | (go_simp; done) | rfl
    try simp only [Act.put, List.setIfInBounds_toArray, List.set_cons_zero, List.set_cons_succ]
    refine wpAnyH_ready (rs := [6]) (by kernel_rfl) (by simp) ?_
    refine AllReadyH.cons (o := { dst := some 14, op := Op.call { callee := Callee.value (Operand.func 54), args := #[Operand.tmp 11, Operand.tmp 13], argTypes := #[59, 2] }, type := 101, pos := "deeds.go:66", after := #[{ on := 3, ground := Ground.data }, { on := 5, ground := Ground.data }], guard := none }) rfl (fun K hK => ?_) AllReadyH.nil
    rw [if_pos (by rfl)]
    clear hSw
    go_simp
    refine (makes_yes ow U.drew b n m W v (H1.out.keeps (But.of (ls := []) (below_drewN' (Below.refl _ _))) (.refl _ _) (by simp) (by simp)) hm (by omega)).mono ?_; rintro e w2 ⟨rfl, ow', v', he, h1m, hbm⟩
    have hsame : SameOn (fun k => k = p ∨ k = w.heap.size ∨ k = rg) U w2 := by
      rintro k (rfl | rfl | rfl)
      · exact hbm.block _ (by show _ < U.heap.size; omega) (by rw [hlabp]; simp; omega)
      · exact hbm.block _ (by show _ < U.heap.size; omega) (by rw [HL0.out]; simp)
      · exact hbm.block _ (by show _ < U.heap.size; omega) (by rw [HRL.out]; simp; omega)
    have H1M := Lib.hid h1m
    have H2M := Lib.hid ((H2.out.keeps (But.of (ls := []) (below_drewN' (Below.refl _ _))) (.refl _ _) (by simp)).keeps hbm he (by simp; omega))
    have HKM := Lib.hid (((Kp.of HB.out).drew).trans (.refl _ _) (hbm.kp (j := j) (by intro l hl; simp at hl; unfold Mine; omega)))
    have HEM := Lib.hid (show Ext ow ow' w from fun k hk => he k (by show _ < U.heap.size; omega))
    have hzm := hbm.size
    clear he h1m hbm
    refine hK.out _ _ (fun k hk => hsame k (by omega)) (fun hSw => ?_)
    clear hK K
    try simp only [Act.put, List.setIfInBounds_toArray, List.set_cons_zero, List.set_cons_succ]
    refine wpAnyH_take (i := 7) (oi := { dst := some 7, op := Op.move (Operand.tmp 14), type := 101, pos := "deeds.go:66", after := #[{ on := 6, ground := Ground.data }], guard := none }) (v := .tuple #[.int .i64 (W.words.length : Int), .bool true]) rfl (by kernel_rfl) (by kernel_rfl) (by kernel_rfl) (fun _ _ _ h => h) (Or.inl ⟨by rfl, fun W hW => ?_⟩) hSw ?_
    · first | (go_simp; done) | rfl
    try simp only [Act.put, List.setIfInBounds_toArray, List.set_cons_zero, List.set_cons_succ]
    refine wpAnyH_take (i := 8) (oi := { dst := some 15, op := Op.extract (Operand.tmp 7) 0, type := 2, pos := "deeds.go:66", after := #[{ on := 7, ground := Ground.data }], guard := none }) (v := .int .i64 (W.words.length : Int)) rfl (by kernel_rfl) (by kernel_rfl) (by kernel_rfl) (fun _ _ _ h => h) (Or.inl ⟨by rfl, fun W hW => ?_⟩) hSw ?_
    · first | (go_simp; done) | rfl
    try simp only [Act.put, List.setIfInBounds_toArray, List.set_cons_zero, List.set_cons_succ]
    refine wpAnyH_take (i := 9) (oi := { dst := some 16, op := Op.extract (Operand.tmp 7) 1, type := 4, pos := "deeds.go:66", after := #[{ on := 7, ground := Ground.data }, { on := 10, ground := Ground.gcOnly Departure.lateStores }], guard := none }) (v := .bool true) rfl (by kernel_rfl) (by kernel_rfl) (by kernel_rfl) (fun _ _ _ h => h) (Or.inl ⟨by rfl, fun W hW => ?_⟩) hSw ?_
    · first | (go_simp; done) | rfl
    try simp only [Act.put, List.setIfInBounds_toArray, List.set_cons_zero, List.set_cons_succ]
    refine wpAnyH_take (i := 10) (oi := { dst := some 5, op := Op.assign (Operand.tmp 15), type := 2, pos := "deeds.go:66", after := #[{ on := 8, ground := Ground.data }, { on := 6, ground := Ground.chain }, { on := 0, ground := Ground.phase }, { on := 1, ground := Ground.phase }, { on := 2, ground := Ground.phase }, { on := 3, ground := Ground.phase }, { on := 4, ground := Ground.phase }, { on := 5, ground := Ground.phase }, { on := 6, ground := Ground.phase }, { on := 7, ground := Ground.phase }, { on := 8, ground := Ground.phase }, { on := 9, ground := Ground.textOnly Departure.lateStores }], guard := none }) (v := .int .i64 (W.words.length : Int)) rfl (by kernel_rfl) (by kernel_rfl) (by kernel_rfl) (fun _ _ _ h => h) (Or.inl ⟨by rfl, fun W hW => ?_⟩) hSw ?_
    · first | (go_simp; done) | rfl
    try simp only [Act.put, List.setIfInBounds_toArray, List.set_cons_zero, List.set_cons_succ]
    refine wpAnyH_take (i := 11) (oi := { dst := some 6, op := Op.assign (Operand.tmp 16), type := 4, pos := "deeds.go:66", after := #[{ on := 9, ground := Ground.data }, { on := 10, ground := Ground.chain }, { on := 0, ground := Ground.phase }, { on := 1, ground := Ground.phase }, { on := 2, ground := Ground.phase }, { on := 3, ground := Ground.phase }, { on := 4, ground := Ground.phase }, { on := 5, ground := Ground.phase }, { on := 6, ground := Ground.phase }, { on := 7, ground := Ground.phase }, { on := 8, ground := Ground.phase }, { on := 9, ground := Ground.phase }, { on := 10, ground := Ground.phase }], guard := none }) (v := .bool true) rfl (by kernel_rfl) (by kernel_rfl) (by kernel_rfl) (fun _ _ _ h => h) (Or.inl ⟨by rfl, fun W hW => ?_⟩) hSw ?_
    · first | (go_simp; done) | rfl
    try simp only [Act.put, List.setIfInBounds_toArray, List.set_cons_zero, List.set_cons_succ]
    refine wpAnyH_done (by kernel_rfl) ?_ _
    have i2 := hsame.cell (a := ⟨w.heap.size, 2, none⟩) (by simp) i2
    have d4 := hsame.cell (a := ⟨p, 4, none⟩) (by simp) d4
    have s0 := hsame.cell (a := ⟨rg, a, none⟩) (by simp) s0
    have f0 := hsame.frozen (a := ⟨rg, a, none⟩) (by simp) f0
    have hz2 : w.heap.size + 1 ≤ w2.heap.size := by rw [← hzU]; exact hzm
    clear hsame i0 i1 i3 i4 i5 d0 hSw
    go_wp2_with fail
    refine wp_region_late (S := SameTo (w2.heap.size) w2) (fun j => decide (7 ≤ j)) (by kernel_rfl) (SameTo.drew _ _) (fun hSw => ?_)
    refine wpAnyL_take (i := 0) (v := .pointer (some ⟨p, 0, none⟩)) rfl (by kernel_rfl) (by kernel_rfl) (by kernel_rfl) rfl (by kernel_rfl) (fun _ _ _ h => h) (Or.inl ⟨by rfl, fun W hW => ?_⟩) hSw ?_
    · first | (go_simp; done) | rfl
    try simp only [Act.put, List.setIfInBounds_toArray]
    refine wpAnyL_take (i := 1) (v := .pointer (some ⟨p, 0, none⟩)) rfl (by kernel_rfl) (by kernel_rfl) (by kernel_rfl) rfl (by kernel_rfl) (fun _ _ _ h => h) (Or.inl ⟨by rfl, fun W hW => ?_⟩) hSw ?_
    · first | (go_simp; done) | rfl
    try simp only [Act.put]
    refine wpAnyL_take (i := 2) (v := .pointer (some ⟨p, 4, none⟩)) rfl (by kernel_rfl) (by kernel_rfl) (by kernel_rfl) rfl (by kernel_rfl) (fun _ _ _ h => h) (Or.inl ⟨by rfl, fun W hW => ?_⟩) hSw ?_
    · first | (go_simp; done) | rfl
    try simp only [Act.put]
    refine wpAnyL_take (i := 3) (v := .slice (some ⟨rg, 0, none⟩) NR NR) rfl (by kernel_rfl) (by kernel_rfl) (by kernel_rfl) rfl (by kernel_rfl) (fun _ _ _ h => h) (Or.inl ⟨by rfl, fun W hW => ?_⟩) hSw ?_
    · have d4 := hW.cell (by dsimp only; omega) d4
      first | (go_simp; done) | rfl
    try simp only [Act.put]
    refine wpAnyL_take (i := 4) (v := .pointer (some ⟨w.heap.size, 2, none⟩)) rfl (by kernel_rfl) (by kernel_rfl) (by kernel_rfl) rfl (by kernel_rfl) (fun _ _ _ h => h) (Or.inl ⟨by rfl, fun W hW => ?_⟩) hSw ?_
    · first | (go_simp; done) | rfl
    try simp only [Act.put]
    refine wpAnyL_take (i := 5) (v := .int .i64 (a : Int)) rfl (by kernel_rfl) (by kernel_rfl) (by kernel_rfl) rfl (by kernel_rfl) (fun _ _ _ h => h) (Or.inl ⟨by rfl, fun W hW => ?_⟩) hSw ?_
    · have i2 := hW.cell (by dsimp only; omega) i2
      first | (go_simp; done) | rfl
    try simp only [Act.put]
    refine wpAnyL_take (i := 6) (v := .int .i64 (W.words.length : Int)) rfl (by kernel_rfl) (by kernel_rfl) (by kernel_rfl) rfl (by kernel_rfl) (fun _ _ _ h => h) (Or.inl ⟨by rfl, fun W hW => ?_⟩) hSw ?_
    · first | (go_simp; done) | rfl
    try simp only [Act.put]
    refine wpAnyL_only (rs := [7]) (by kernel_rfl) (by simp) (by rfl) ?_
    refine wpAny_one (i := 7) (by kernel_rfl) rfl (fun J hK => ?_)
    rw [if_pos (by rfl)]
    go_simp
    refine hK.out _ _ ?_
    clear hK J
    try simp only [Act.put, List.setIfInBounds_toArray, List.set_cons_zero, List.set_cons_succ]
    refine wpAny_one (i := 8) (by kernel_rfl) rfl (fun J hK => ?_)
    rw [if_pos (by rfl)]
    go_simp
    refine hK.out _ _ ?_
    clear hK J
    try simp only [Act.put, List.setIfInBounds_toArray, List.set_cons_zero, List.set_cons_succ]
    refine wpAny_done (by kernel_rfl) ?_ _
    go_wp2_with fail
    go_ret
    exact StepE.after HKM.out HEM.out (setR_end (Below.refl _ _) H1M.out H2M.out HER.out (W.words.length : Int) rfl)
theorem made_any (ow : Nat → Nat) (w : World) (b j p n : Nat) (g : Gr) (W : WS) (T : TS) (v rs us ts ws : Value) (k o : Int) (a m : Nat) (bb cc : Int) (h1 : WAt ow w b W n v) (h2 : TAt ow w b j p g T rs us ts ws) (ha : a < T.regs.length) (hm : m ≤ 64) (hok : UOk T.undo T.since W.words.length) (hu : T.undo.length ≤ 1048576) :
    Calls Try.prog 34 #[.pointer (some ⟨p, 0, none⟩), .agg #[.int .u8 k, .int .u8 o, .int .i64 (a : Int), .int .i64 bb, .int .i64 cc, .int .i64 (m : Int)]] w (StepE ow b j p g n (if 65536 < (W.words.length : Int) - 1 + (m : Int) then failT W T 5 else ({ W with words := W.words ++ List.replicate m 0 }, T.setR (a : Int) (W.words.length : Int), false)) w) :=
  (made_z (low ow w.heap.size) w b j p n g W T v rs us ts ws k o a m bb cc h1.low h2.low (fun _k hk => low_new _ _ _ hk) ha hm hok hu).mono fun _ _ h => h.relab (low_ext _ _)
set_option maxHeartbeats 8000000 in
theorem load_any (ow : Nat → Nat) (w : World) (b j p n : Nat) (g : Gr) (W : WS) (T : TS) (v rs us ts ws : Value) (k o : Int) (a bb : Nat) (cc x : Int) (h1 : WAt ow w b W n v) (h2 : TAt ow w b j p g T rs us ts ws) (ha : a < T.regs.length) (hb : bb < T.regs.length) (hc : cc < 0 ∨ cc.toNat < T.regs.length) (hok : UOk T.undo T.since W.words.length) (hu : T.undo.length ≤ 1048576) :
    Calls Try.prog 35 #[.pointer (some ⟨p, 0, none⟩), .agg #[.int .u8 k, .int .u8 o, .int .i64 (a : Int), .int .i64 (bb : Int), .int .i64 cc, .int .i64 x]] w (StepE ow b j p g n (loadT W T ⟨k, o, (a : Int), (bb : Int), cc, x⟩) w) := by
  obtain ⟨rg, er, hrg, hrl⟩ := h2.regs
  have her := er
  obtain ⟨U, hU⟩ : ∃ U, U = w.alloc (.cells #[.int .u8 k, .int .u8 o, .int .i64 (a : Int), .int .i64 (bb : Int), .int .i64 cc, .int .i64 x] 53) := ⟨_, rfl⟩
  have hBU : Below w.heap.size w U := by rw [hU]; exact below_box w _
  have hzU : U.heap.size = w.heap.size + 1 := by rw [hU]; simp
  have hO : U.heap[w.heap.size]? = some (.cells #[.int .u8 k, .int .u8 o, .int .i64 (a : Int), .int .i64 (bb : Int), .int .i64 cc, .int .i64 x] 53 (0, 0)) := by rw [hU]; exact (MapKept.heap_alloc _ _).1
  have h1U := h1.keeps (But.of (ls := []) hBU) (.refl _ _) (by simp) (by simp)
  have h2U := h2.keeps (But.of (ls := []) hBU) (.refl _ _) (by simp)
  have hlp : p < w.heap.size := heap_lt h2.box
  have hlb : b < w.heap.size := heap_lt h1.box
  have hlr : rg < w.heap.size := heap_lt hrg
  have hrgU := (hBU.block rg hlr).trans hrg
  obtain ⟨d0, d3, d4, d5, d6, d7, d8, d9, d10, d11, d12⟩ := h2U.cells
  obtain ⟨e0, e1, e2⟩ := h1U.cells
  rw [her] at d4
  obtain ⟨i0, i1, i2, i3, i4, i5⟩ := own6 hO
  have fr := fun (q : Nat) => Lib.frozen_of_heap hrgU q
  obtain ⟨NR, hNR⟩ : ∃ N, N = T.regs.length := ⟨_, rfl⟩
  have hax : a < NR := by rw [hNR]; exact ha
  have HFA := Lib.hid (fun (u : World) (hb : Below U.heap.size U u) => fails_any ow u b j p n g W T v rs us ts ws 8 (h1U.keeps (But.of (ls := []) hb) (.refl _ _) (by simp) (by simp)) (h2U.keeps (But.of (ls := []) hb) (.refl _ _) (by simp)) hok hu)
  have HME := Lib.hid (met_any ow U b j p n g W T v rs us ts ws k o (a : Int) bb cc hc x h1U h2U hb)
  obtain ⟨i, hi⟩ : ∃ i : In, i = ⟨k, o, (a : Int), (bb : Int), cc, x⟩ := ⟨_, rfl⟩
  have hia : i.a = (a : Int) := by rw [hi]
  rw [← hi] at HME ⊢
  have f0 := fr a
  obtain ⟨y, hy⟩ : ∃ y, T.regs[a]? = some y := ⟨_, List.getElem?_eq_getElem ha⟩
  have s0 := wds_cell hrgU a y hy
  obtain ⟨A, hA⟩ : ∃ A, A = metA T i := ⟨_, rfl⟩
  unfold MetE at HME
  rw [← hA] at HME
  have hW0 := h1U
  have H1 := Lib.hid h1U
  have H2 := Lib.hid h2U
  have HB := Lib.hid hBU
  have HU := Lib.hid hU
  have HER := Lib.hid her
  rw [← hNR] at d4
  have HNR := Lib.hid hNR
  clear d3 d5 d6 d7 d8 d9 d10 d11 d12 e0 e1 e2
  clear h1 h2 h1U h2U hBU hO hrg hrgU hrl er her hU hNR hb ha hc fr hok hu hy hi
  by_cases hh : hasW W A = true
  · have hres : loadT W T i = (W, T.setR (a : Int) ((W.words[A.toNat]?).getD 0), false) := by unfold loadT; rw [← hA, if_pos hh, hia]
    rw [hres]
    rw [hh] at HME
    have hA1 : ∃ N : Nat, A = (N : Int) ∧ N < W.words.length := by
      unfold hasW at hh
      simp only [Bool.and_eq_true, decide_eq_true_eq] at hh
      exact ⟨A.toNat, by omega, by omega⟩
    obtain ⟨N, rfl, hN⟩ := hA1
    obtain ⟨wg, cap, z, rfl, hcap, hwg, hz, hcell, hfz, hlw, _⟩ := hW0.setW N hN
    have hwm := hW0.many
    obtain ⟨e0, _, _⟩ := hW0.cells
    rw [Int.toNat_natCast, hz, Option.getD_some]
    obtain ⟨NW, hNW⟩ : ∃ M, M = W.words.length := ⟨_, rfl⟩
    rw [← hNW] at hN hcap hwm e0
    clear hres hh hia hA hNW hz hW0 hfz hlw
    go_enter Try.func35, Try.ntmps35
    go_wp2_with fail
    rw [← HU.out]
    refine HME.out.mono ?_; rintro e w2 ⟨rfl, hb2⟩
    have hz2 := hb2.size
    have i2 := (hb2.cell (p := ⟨w.heap.size, 2, none⟩) (by dsimp only; omega)).trans i2
    have d4 := (hb2.cell (p := ⟨p, 4, none⟩) (by dsimp only; omega)).trans d4
    have d0 := (hb2.cell (p := ⟨p, 0, none⟩) (by dsimp only; omega)).trans d0
    have e0 := (hb2.cell (p := ⟨b, 0, none⟩) (by dsimp only; omega)).trans e0
    have hcell := (hb2.cell (p := ⟨wg, N, none⟩) hwg).trans hcell
    have s0 := (hb2.cell (p := ⟨rg, a, none⟩) (by dsimp only; omega)).trans s0
    have f0 : w2.frozen? ⟨rg, a, none⟩ = false := by rw [← f0]; simp only [World.frozen?, hb2.block rg (by omega)]
    have H1' := Lib.hid (H1.out.keeps (But.of (ls := []) hb2) (.refl _ _) (by simp) (by simp))
    have H2' := Lib.hid (H2.out.keeps (But.of (ls := []) hb2) (.refl _ _) (by simp))
    have HB' := Lib.hid (HB.out.trans (hb2.mono (by omega)))
    have hwg2 : wg < w2.heap.size := by omega
    clear hb2 i0 i1 i3 i4 i5
    go_wp2_with fail
    refine wp_region_late (S := SameTo (w2.heap.size) w2) (fun j => decide (16 ≤ j)) (by kernel_rfl) (SameTo.drew _ _) (fun hSw => ?_)
    refine wpAnyL_take (i := 0) (v := .pointer (some ⟨p, 0, none⟩)) rfl (by kernel_rfl) (by kernel_rfl) (by kernel_rfl) rfl (by kernel_rfl) (fun _ _ _ h => h) (Or.inl ⟨by rfl, fun W hW => ?_⟩) hSw ?_
    · first | (go_simp; done) | rfl
    try simp only [Act.put, List.setIfInBounds_toArray]
    refine wpAnyL_take (i := 1) (v := .pointer (some ⟨p, 0, none⟩)) rfl (by kernel_rfl) (by kernel_rfl) (by kernel_rfl) rfl (by kernel_rfl) (fun _ _ _ h => h) (Or.inl ⟨by rfl, fun W hW => ?_⟩) hSw ?_
    · first | (go_simp; done) | rfl
    try simp only [Act.put]
    refine wpAnyL_take (i := 2) (v := .pointer (some ⟨p, 4, none⟩)) rfl (by kernel_rfl) (by kernel_rfl) (by kernel_rfl) rfl (by kernel_rfl) (fun _ _ _ h => h) (Or.inl ⟨by rfl, fun W hW => ?_⟩) hSw ?_
    · first | (go_simp; done) | rfl
    try simp only [Act.put]
    refine wpAnyL_take (i := 3) (v := .slice (some ⟨rg, 0, none⟩) NR NR) rfl (by kernel_rfl) (by kernel_rfl) (by kernel_rfl) rfl (by kernel_rfl) (fun _ _ _ h => h) (Or.inl ⟨by rfl, fun W hW => ?_⟩) hSw ?_
    · have d4 := hW.cell (by dsimp only; omega) d4
      first | (go_simp; done) | rfl
    try simp only [Act.put]
    refine wpAnyL_take (i := 4) (v := .pointer (some ⟨w.heap.size, 2, none⟩)) rfl (by kernel_rfl) (by kernel_rfl) (by kernel_rfl) rfl (by kernel_rfl) (fun _ _ _ h => h) (Or.inl ⟨by rfl, fun W hW => ?_⟩) hSw ?_
    · first | (go_simp; done) | rfl
    try simp only [Act.put]
    refine wpAnyL_take (i := 5) (v := .int .i64 (a : Int)) rfl (by kernel_rfl) (by kernel_rfl) (by kernel_rfl) rfl (by kernel_rfl) (fun _ _ _ h => h) (Or.inl ⟨by rfl, fun W hW => ?_⟩) hSw ?_
    · have i2 := hW.cell (by dsimp only; omega) i2
      first | (go_simp; done) | rfl
    try simp only [Act.put]
    refine wpAnyL_take (i := 6) (v := .pointer (some ⟨p, 0, none⟩)) rfl (by kernel_rfl) (by kernel_rfl) (by kernel_rfl) rfl (by kernel_rfl) (fun _ _ _ h => h) (Or.inl ⟨by rfl, fun W hW => ?_⟩) hSw ?_
    · first | (go_simp; done) | rfl
    try simp only [Act.put]
    refine wpAnyL_take (i := 7) (v := .pointer (some ⟨p, 0, none⟩)) rfl (by kernel_rfl) (by kernel_rfl) (by kernel_rfl) rfl (by kernel_rfl) (fun _ _ _ h => h) (Or.inl ⟨by rfl, fun W hW => ?_⟩) hSw ?_
    · first | (go_simp; done) | rfl
    try simp only [Act.put]
    refine wpAnyL_take (i := 8) (v := .pointer (some ⟨p, 0, none⟩)) rfl (by kernel_rfl) (by kernel_rfl) (by kernel_rfl) rfl (by kernel_rfl) (fun _ _ _ h => h) (Or.inl ⟨by rfl, fun W hW => ?_⟩) hSw ?_
    · first | (go_simp; done) | rfl
    try simp only [Act.put]
    refine wpAnyL_take (i := 9) (v := .pointer (some ⟨b, 0, none⟩)) rfl (by kernel_rfl) (by kernel_rfl) (by kernel_rfl) rfl (by kernel_rfl) (fun _ _ _ h => h) (Or.inl ⟨by rfl, fun W hW => ?_⟩) hSw ?_
    · have d0 := hW.cell (by dsimp only; omega) d0
      first | (go_simp; done) | rfl
    try simp only [Act.put]
    refine wpAnyL_take (i := 10) (v := .pointer (some ⟨b, 0, none⟩)) rfl (by kernel_rfl) (by kernel_rfl) (by kernel_rfl) rfl (by kernel_rfl) (fun _ _ _ h => h) (Or.inl ⟨by rfl, fun W hW => ?_⟩) hSw ?_
    · first | (go_simp; done) | rfl
    try simp only [Act.put]
    refine wpAnyL_take (i := 11) (v := .pointer (some ⟨b, 0, none⟩)) rfl (by kernel_rfl) (by kernel_rfl) (by kernel_rfl) rfl (by kernel_rfl) (fun _ _ _ h => h) (Or.inl ⟨by rfl, fun W hW => ?_⟩) hSw ?_
    · first | (go_simp; done) | rfl
    try simp only [Act.put]
    refine wpAnyL_take (i := 12) (v := .slice (some ⟨wg, 0, none⟩) NW cap) rfl (by kernel_rfl) (by kernel_rfl) (by kernel_rfl) rfl (by kernel_rfl) (fun _ _ _ h => h) (Or.inl ⟨by rfl, fun W hW => ?_⟩) hSw ?_
    · have e0 := hW.cell (by dsimp only; omega) e0
      first | (go_simp; done) | rfl
    try simp only [Act.put]
    refine wpAnyL_take (i := 13) (v := .int .i64 (N : Int)) rfl (by kernel_rfl) (by kernel_rfl) (by kernel_rfl) rfl (by kernel_rfl) (fun _ _ _ h => h) (Or.inl ⟨by rfl, fun W hW => ?_⟩) hSw ?_
    · first | (go_simp; done) | rfl
    try simp only [Act.put]
    refine wpAnyL_take (i := 14) (v := .pointer (some ⟨wg, N, none⟩)) rfl (by kernel_rfl) (by kernel_rfl) (by kernel_rfl) rfl (by kernel_rfl) (fun _ _ _ h => h) (Or.inl ⟨by rfl, fun W hW => ?_⟩) hSw ?_
    · first | (go_simp; done) | rfl
    try simp only [Act.put]
    refine wpAnyL_take (i := 15) (v := .int .i64 z) rfl (by kernel_rfl) (by kernel_rfl) (by kernel_rfl) rfl (by kernel_rfl) (fun _ _ _ h => h) (Or.inl ⟨by rfl, fun W hW => ?_⟩) hSw ?_
    · have hcell := hW.cell (by dsimp only; omega) hcell
      first | (go_simp; done) | rfl
    try simp only [Act.put]
    refine wpAnyL_only (rs := [16]) (by kernel_rfl) (by simp) (by rfl) ?_
    refine wpAny_one (i := 16) (by kernel_rfl) rfl (fun J hK => ?_)
    rw [if_pos (by rfl)]
    go_simp
    refine hK.out _ _ ?_
    clear hK J
    try simp only [Act.put, List.setIfInBounds_toArray, List.set_cons_zero, List.set_cons_succ]
    refine wpAny_one (i := 17) (by kernel_rfl) rfl (fun J hK => ?_)
    rw [if_pos (by rfl)]
    go_simp
    refine hK.out _ _ ?_
    clear hK J
    try simp only [Act.put, List.setIfInBounds_toArray, List.set_cons_zero, List.set_cons_succ]
    refine wpAny_done (by kernel_rfl) ?_ _
    go_wp2_with fail
    go_ret
    exact setR_end HB'.out H1'.out H2'.out HER.out z rfl
  · have hres : loadT W T i = failT W T 8 := by unfold loadT; rw [← hA, if_neg hh]
    rw [hres]
    have hh2 : hasW W A = false := by simpa using hh
    rw [hh2] at HME
    clear hres hh hh2 hia hA hW0
    go_enter Try.func35, Try.ntmps35
    go_wp2_with fail
    rw [← HU.out]
    refine HME.out.mono ?_; rintro e w2 ⟨rfl, hb2⟩
    have HB2 := Lib.hid hb2
    clear hb2
    go_wp2_with fail
    refine (HFA.out w2 HB2.out).mono ?_; rintro e w3 hE
    obtain ⟨rfl, hR⟩ := (show e = .returned (.bool true) ∧ StepE ow b j p g n (failT W T 8) w2 e w3 from ⟨hE.1, hE⟩)
    have HR := Lib.hid hR
    clear hE hR
    go_wp2_with fail
    go_ret
    exact ((HR.out.from HB2.out).from HB.out)
end Go.Proofs.Ytijciojipcgiaaa
