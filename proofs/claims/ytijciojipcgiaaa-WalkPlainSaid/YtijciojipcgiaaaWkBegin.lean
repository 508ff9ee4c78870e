/- A block's beginning and its end. -/
import Derived.Test.YtijciojipcgiaaaRows
import Derived.Test.YtijciojipcgiaaaWkStore
import Derived.Test.YtijciojipcgiaaaIrSizes
import Derived.Test.YtijciojipcgiaaaIrBoth
import Derived.Test.YtijciojipcgiaaaWkBack
import Derived.LoopTactic
import Derived.LoopN
import Derived.WalkKit
import Derived.WalkSpells
import Derived.WalkLawsBesides
import Derived.Lib.Hide
import Derived.OrdersHeld
import Derived.Deep.RegionHeld
import Derived.Deep.DrawnRows
import Derived.RegionTactic
import Derived.Deep.RegionHeld3
import Derived.IntWalk
namespace Go.Proofs.Ytijciojipcgiaaa
open Go.RowKit
set_option maxRecDepth 100000
attribute [local go_sem ↓] bld_eq bls_eq

set_option maxHeartbeats 8000000 in
theorem begin_z (ow : Nat → Nat) (w : World) (b j p n : Nat) (g : Gr) (W : WS) (T : TS) (v rs us ts ws : Value) (k o : Int) (a bb cc x : Int) (h1 : WAt ow w b W n v) (h2 : TAt ow w b j p g T rs us ts ws) (hl0 : ∀ k, w.heap.size ≤ k → ow k = 15 + 8 * j) (hu : T.undo.length ≤ 1048576) :
    Calls Try.prog 40 #[.pointer (some ⟨p, 0, none⟩), .agg #[.int .u8 k, .int .u8 o, .int .i64 a, .int .i64 bb, .int .i64 cc, .int .i64 x]] w (StepE ow b j p g n (W, { T with inside := true, since := W.words.length, undo := .cut :: T.undo }, false) w) := by
  obtain ⟨U, hU⟩ : ∃ U, U = (w.alloc (.cells #[.pointer (some ⟨p, 0, none⟩)] 63)).alloc (.cells #[.int .u8 k, .int .u8 o, .int .i64 a, .int .i64 bb, .int .i64 cc, .int .i64 x] 53) := ⟨_, rfl⟩
  have hBU : Below w.heap.size w U := by rw [hU]; exact (below_box w _).trans ((below_box _ _).mono (by simp))
  have hzU : U.heap.size = w.heap.size + 2 := by rw [hU]; simp
  have hC2 : U.heap[w.heap.size]? = some (.cells #[.pointer (some ⟨p, 0, none⟩)] 63 (0, 0)) := by rw [hU]; exact (Below.heap_alloc _ _ _ (by simp)).trans (MapKept.heap_alloc w _).1
  have h1U := h1.keeps (But.of (ls := []) hBU) (.refl _ _) (by simp) (by simp)
  have h2U := h2.keeps (But.of (ls := []) hBU) (.refl _ _) (by simp)
  have hlp : p < w.heap.size := heap_lt h2.box
  have hlb : b < w.heap.size := heap_lt h1.box
  obtain ⟨vp, vc, rfl⟩ := h1.slice
  have hwm := h1.many
  obtain ⟨NW, hNW⟩ : ∃ M, M = W.words.length := ⟨_, rfl⟩
  have c2 : U.cell? ⟨w.heap.size, 0, none⟩ = some (.pointer (some ⟨p, 0, none⟩)) := cellI hC2 0 _ rfl
  have d7 := h2U.cells.2.2.2.2.2.1
  have f7 := Lib.frozen_of_heap h2U.box 7
  -- inside
  obtain ⟨U1, hU1⟩ : ∃ V, V = U.setCell ⟨p, 7, none⟩ (.bool true) := ⟨_, rfl⟩
  have hb1 : But ow [10 + 8 * j] U U1 := by rw [hU1]; exact but_set _ _ h2U.lab
  have h11 := h1U.keeps hb1 (.refl _ _) (by simp; omega) (by simp; omega)
  have h21 : TAt ow U1 b j p g { T with inside := true } rs us ts ws := h2U.rebox hb1 (by rw [hU1]; exact tset_box 7 _ h2U.box rfl) rfl rfl rfl rfl
  have c21 : U1.heap[w.heap.size]? = some (.cells #[.pointer (some ⟨p, 0, none⟩)] 63 (0, 0)) := (hb1.block _ (by omega) (by rw [hl0 _ (Nat.le_refl _)]; simp)).trans hC2
  have k2 : U1.cell? ⟨w.heap.size, 0, none⟩ = some (.pointer (some ⟨p, 0, none⟩)) := cellI c21 0 _ rfl
  have k0 := h21.cells.1
  have k8 := h21.cells.2.2.2.2.2.2.1
  have f8 := Lib.frozen_of_heap h21.box 8
  have e0 := h11.cells.1
  have hz1 : U1.heap.size = w.heap.size + 2 := by rw [hU1]; simpa [World.setCell] using hzU
  -- since
  obtain ⟨U2, hU2⟩ : ∃ V, V = (U1.setCell ⟨p, 8, none⟩ (.int .i64 (W.words.length : Int))).drew := ⟨_, rfl⟩
  have hb2 : But ow [10 + 8 * j] U1 U2 := by rw [hU2]; exact (but_set _ _ h21.lab).drew
  have h12 := h11.keeps hb2 (.refl _ _) (by simp; omega) (by simp; omega)
  have h22 : TAt ow U2 b j p g { T with inside := true, since := W.words.length } rs us ts ws := h21.rebox hb2 (by rw [hU2]; exact tset_box 8 _ h21.box rfl) rfl rfl rfl rfl
  have c22 : U2.heap[w.heap.size]? = some (.cells #[.pointer (some ⟨p, 0, none⟩)] 63 (0, 0)) := (hb2.block _ (by omega) (by rw [hl0 _ (Nat.le_refl _)]; simp)).trans c21
  have l2 : U2.cell? ⟨w.heap.size, 0, none⟩ = some (.pointer (some ⟨p, 0, none⟩)) := cellI c22 0 _ rfl
  have d9 := h22.cells.2.2.2.2.2.2.2.1
  have hz2 : U2.heap.size = w.heap.size + 2 := by rw [hU2]; simpa [World.setCell, World.drew] using hz1
  have hd2 : But ow [] U2 U2.drew := But.of (below_drewN' (Below.refl _ _))
  have hUN : UnAt ow U2.drew j p .cut (.func (.func 58) #[] #[.pointer (some ⟨w.heap.size, 0, none⟩)]) := ⟨w.heap.size, rfl, c22, hl0 _ (Nat.le_refl _)⟩
  obtain ⟨v', w5, hr, ⟨uq, uc, hv'⟩, g0, f0, hz5, ow', he, h1e, h2e, hbe, hb5⟩ := undo_push ow U2.drew b j p n g W { T with inside := true, since := W.words.length } _ rs us ts ws _ .cut (h12.keeps hd2 (.refl _ _) (by simp) (by simp)) (h22.keeps hd2 (.refl _ _) (by simp)) hUN rfl hu
  subst hv'
  have hs5 : SameOn (fun k => k = p ∨ k = w.heap.size) U2 w5 := by
    rintro k (rfl | rfl)
    · exact hb5.block _ (by show _ < U2.heap.size; omega) (by rw [h2.lab]; simp)
    · exact hb5.block _ (by show _ < U2.heap.size; omega) (by rw [hl0 _ (Nat.le_refl _)]; simp)
  have hkp : Kp ow j w (w5.setCell ⟨p, 9, none⟩ (.slice uq (T.undo.length + 1) uc)) :=
    ((((Kp.of hBU).trans (.refl _ _) (hb1.kp (by intro l hl; simp at hl; unfold Mine; omega))).trans (.refl _ _) (hb2.kp (by intro l hl; simp at hl; unfold Mine; omega)))).drew.trans (.refl _ _) (hbe.kp (by intro l hl; simp at hl; unfold Mine; omega))
  have hex : Ext ow ow' w := fun k hk => he k (by show _ < U2.heap.size; omega)
  rw [hU] at c2 d7 f7
  have HS5 := Lib.hid hs5
  have HR := Lib.hid hr
  have H1E := Lib.hid h1e
  have H2E := Lib.hid h2e
  have HKP := Lib.hid hkp
  have HEX := Lib.hid hex
  have HU := Lib.hid hU
  have HU1 := Lib.hid hU1
  have HU2 := Lib.hid hU2
  have hlp2 : p < U2.heap.size := by omega
  have hlw2 : w.heap.size < U2.heap.size := by omega
  have HZ2 := Lib.hid hz2
  have hmf := hmf26
  have e3 := made_oneF
  rw [← hNW] at e0 hwm
  have HNW := Lib.hid hNW
  have HU0 := Lib.hid hu
  clear h1 h2 hBU hzU hC2 h1U h2U hU hU1 hU2 hb1 h11 h21 c21 hb2 h12 h22 c22 hd2 hUN hr he h1e h2e hbe hb5 hs5 hkp hex hl0 hu hz2 hNW
  go_enter Try.func40, Try.ntmps40
  go_wp2_with fail
  have hU1' : (((w.setCell ⟨p, 7, none⟩ (.bool true)).alloc (.cells #[.pointer (some ⟨p, 0, none⟩)] 63)).alloc (.cells #[.int .u8 k, .int .u8 o, .int .i64 a, .int .i64 bb, .int .i64 cc, .int .i64 x] 53)) = U1 := by
    rw [HU1.out, HU.out]
    go_simp
  rw [hU1']
  clear hU1'
  have HD9 := Lib.hid d9
  have HL2 := Lib.hid l2
  have HG0 := Lib.hid g0
  have HF0 := Lib.hid f0
  clear c2 d7 f7 d9 l2 g0 f0
  refine wp_region_late (S := SameTo (w.heap.size + 2) U1) (fun j => decide (9 ≤ j)) (by kernel_rfl) (SameTo.drew _ _) (fun hSw => ?_)
  refine wpAnyL_take (i := 0) (v := .pointer (some ⟨p, 0, none⟩)) rfl (by kernel_rfl) (by kernel_rfl) (by kernel_rfl) rfl (by kernel_rfl) (fun _ _ _ h => h) (Or.inl ⟨by rfl, fun W hW => ?_⟩) hSw ?_
  · have k2 := hW.cell (by dsimp only; omega) k2
    first | (go_simp; done) | rfl
  try simp only [Act.put, List.setIfInBounds_toArray]
  refine wpAnyL_take (i := 1) (v := .pointer (some ⟨p, 0, none⟩)) rfl (by kernel_rfl) (by kernel_rfl) (by kernel_rfl) rfl (by kernel_rfl) (fun _ _ _ h => h) (Or.inl ⟨by rfl, fun W hW => ?_⟩) hSw ?_
  · have k2 := hW.cell (by dsimp only; omega) k2
    first | (go_simp; done) | rfl
  try simp only [Act.put]
  refine wpAnyL_take (i := 2) (v := .pointer (some ⟨p, 0, none⟩)) rfl (by kernel_rfl) (by kernel_rfl) (by kernel_rfl) rfl (by kernel_rfl) (fun _ _ _ h => h) (Or.inl ⟨by rfl, fun W hW => ?_⟩) hSw ?_
  · first | (go_simp; done) | rfl
  try simp only [Act.put]
  refine wpAnyL_take (i := 3) (v := .pointer (some ⟨p, 0, none⟩)) rfl (by kernel_rfl) (by kernel_rfl) (by kernel_rfl) rfl (by kernel_rfl) (fun _ _ _ h => h) (Or.inl ⟨by rfl, fun W hW => ?_⟩) hSw ?_
  · first | (go_simp; done) | rfl
  try simp only [Act.put]
  refine wpAnyL_take (i := 4) (v := .pointer (some ⟨b, 0, none⟩)) rfl (by kernel_rfl) (by kernel_rfl) (by kernel_rfl) rfl (by kernel_rfl) (fun _ _ _ h => h) (Or.inl ⟨by rfl, fun W hW => ?_⟩) hSw ?_
  · have k0 := hW.cell (by dsimp only; omega) k0
    first | (go_simp; done) | rfl
  try simp only [Act.put]
  refine wpAnyL_take (i := 5) (v := .pointer (some ⟨b, 0, none⟩)) rfl (by kernel_rfl) (by kernel_rfl) (by kernel_rfl) rfl (by kernel_rfl) (fun _ _ _ h => h) (Or.inl ⟨by rfl, fun W hW => ?_⟩) hSw ?_
  · first | (go_simp; done) | rfl
  try simp only [Act.put]
  refine wpAnyL_take (i := 6) (v := .pointer (some ⟨b, 0, none⟩)) rfl (by kernel_rfl) (by kernel_rfl) (by kernel_rfl) rfl (by kernel_rfl) (fun _ _ _ h => h) (Or.inl ⟨by rfl, fun W hW => ?_⟩) hSw ?_
  · first | (go_simp; done) | rfl
  try simp only [Act.put]
  refine wpAnyL_take (i := 7) (v := .slice vp NW vc) rfl (by kernel_rfl) (by kernel_rfl) (by kernel_rfl) rfl (by kernel_rfl) (fun _ _ _ h => h) (Or.inl ⟨by rfl, fun W hW => ?_⟩) hSw ?_
  · have e0 := hW.cell (by dsimp only; omega) e0
    first | (go_simp; done) | rfl
  try simp only [Act.put]
  refine wpAnyL_take (i := 8) (v := .int .i64 (NW : Int)) rfl (by kernel_rfl) (by kernel_rfl) (by kernel_rfl) rfl (by kernel_rfl) (fun _ _ _ h => h) (Or.inl ⟨by rfl, fun W hW => ?_⟩) hSw ?_
  · first | (go_simp; done) | rfl
  try simp only [Act.put]
  refine wpAnyL_only (rs := [9]) (by kernel_rfl) (by simp) (by rfl) ?_
  refine wpAny_one (i := 9) (by kernel_rfl) rfl (fun J hK => ?_)
  rw [if_pos (by rfl)]
  go_simp
  refine hK.out _ _ ?_
  clear hK J
  try simp only [Act.put, List.setIfInBounds_toArray, List.set_cons_zero, List.set_cons_succ]
  refine wpAny_one (i := 10) (by kernel_rfl) rfl (fun J hK => ?_)
  rw [if_pos (by rfl)]
  go_simp
  refine hK.out _ _ ?_
  clear hK J
  try simp only [Act.put, List.setIfInBounds_toArray, List.set_cons_zero, List.set_cons_succ]
  refine wpAny_one (i := 11) (by kernel_rfl) rfl (fun J hK => ?_)
  rw [if_pos (by rfl)]
  go_simp
  refine hK.out _ _ ?_
  clear hK J
  try simp only [Act.put, List.setIfInBounds_toArray, List.set_cons_zero, List.set_cons_succ]
  refine wpAny_done (by kernel_rfl) ?_ _
  rw [show (NW : Int) = (W.words.length : Int) by rw [HNW.out], ← HU2.out]
  have d9 := HD9.out
  have l2 := HL2.out
  have g0 := HG0.out
  have f0 := HF0.out
  clear k2 k0 k8 f8 e0 hz1 hSw
  go_wp2_with fail
  refine wp_region_late (S := SameOn (fun k => k = p ∨ k = w.heap.size) U2) (fun j => decide (8 ≤ j)) (by kernel_rfl) (SameOn.drew _ _) (fun hSw => ?_)
  refine wpAnyL_take (i := 0) (v := .pointer (some ⟨p, 0, none⟩)) rfl (by kernel_rfl) (by kernel_rfl) (by kernel_rfl) rfl (by kernel_rfl) (fun _ _ _ h => h) (Or.inl ⟨by rfl, fun W hW => ?_⟩) hSw ?_
  · have l2 := hW.cell (by dsimp only; omega) l2
    first | (go_simp; done) | rfl
  try simp only [Act.put, List.setIfInBounds_toArray]
  refine wpAnyL_take (i := 1) (v := .pointer (some ⟨p, 0, none⟩)) rfl (by kernel_rfl) (by kernel_rfl) (by kernel_rfl) rfl (by kernel_rfl) (fun _ _ _ h => h) (Or.inl ⟨by rfl, fun W hW => ?_⟩) hSw ?_
  · have l2 := hW.cell (by dsimp only; omega) l2
    first | (go_simp; done) | rfl
  try simp only [Act.put]
  refine wpAnyL_take (i := 2) (v := .pointer (some ⟨p, 0, none⟩)) rfl (by kernel_rfl) (by kernel_rfl) (by kernel_rfl) rfl (by kernel_rfl) (fun _ _ _ h => h) (Or.inl ⟨by rfl, fun W hW => ?_⟩) hSw ?_
  · first | (go_simp; done) | rfl
  try simp only [Act.put]
  refine wpAnyL_take (i := 3) (v := .pointer (some ⟨p, 9, none⟩)) rfl (by kernel_rfl) (by kernel_rfl) (by kernel_rfl) rfl (by kernel_rfl) (fun _ _ _ h => h) (Or.inl ⟨by rfl, fun W hW => ?_⟩) hSw ?_
  · first | (go_simp; done) | rfl
  try simp only [Act.put]
  refine wpAnyL_take (i := 4) (v := us) rfl (by kernel_rfl) (by kernel_rfl) (by kernel_rfl) rfl (by kernel_rfl) (fun _ _ _ h => h) (Or.inl ⟨by rfl, fun W hW => ?_⟩) hSw ?_
  · have d9 := hW.cell (by dsimp only; omega) d9
    first | (go_simp; done) | rfl
  try simp only [Act.put]
  refine wpAnyL_take (i := 5) (v := .func (.func 58) #[] #[.pointer (some ⟨w.heap.size, 0, none⟩)]) rfl (by kernel_rfl) (by kernel_rfl) (by kernel_rfl) rfl (by kernel_rfl) (fun _ _ _ h => h) (Or.inl ⟨by rfl, fun W hW => ?_⟩) hSw ?_
  · first | (go_simp; done) | rfl
  try simp only [Act.put]
  refine wpAnyL_ready (rs := [6]) (by kernel_rfl) (by simp) (AllReadyL.cons rfl rfl (fun J hK => ?_) AllReadyL.nil)
  rw [if_pos (by rfl)]
  clear hSw
  go_simp
  
  refine hK.out _ _ (fun k hk => (Below.heap_alloc U2.drew _ k (by show _ < U2.heap.size; rcases hk with rfl | rfl <;> omega))) (fun hSw => ?_)
  clear hK J
  try simp only [Act.put, List.setIfInBounds_toArray, List.set_cons_zero, List.set_cons_succ]
  refine wpAnyL_ready (rs := [7]) (by kernel_rfl) (by simp) (AllReadyL.cons rfl rfl (fun J hK => ?_) AllReadyL.nil)
  rw [if_pos (by rfl)]
  clear hSw
  refine Lib.wp_append_run _ _ _ _ _ rfl _ _ rfl rfl _ w5 HR.out ?_
  refine hK.out _ _ (HS5.out) (fun hSw => ?_)
  clear hK J
  try simp only [Act.put, List.setIfInBounds_toArray]
  refine wpAnyL_only (rs := [8]) (by kernel_rfl) (by simp) (by rfl) ?_
  refine wpAny_one (i := 8) (by kernel_rfl) rfl (fun J hK => ?_)
  rw [if_pos (by rfl)]
  go_simp
  refine hK.out _ _ ?_
  clear hK J
  try simp only [Act.put, List.setIfInBounds_toArray, List.set_cons_zero, List.set_cons_succ]
  refine wpAny_one (i := 9) (by kernel_rfl) rfl (fun J hK => ?_)
  rw [if_pos (by rfl)]
  go_simp
  refine hK.out _ _ ?_
  clear hK J
  try simp only [Act.put, List.setIfInBounds_toArray, List.set_cons_zero, List.set_cons_succ]
  refine wpAny_one (i := 10) (by kernel_rfl) rfl (fun J hK => ?_)
  rw [if_pos (by rfl)]
  go_simp
  refine hK.out _ _ ?_
  clear hK J
  try simp only [Act.put, List.setIfInBounds_toArray, List.set_cons_zero, List.set_cons_succ]
  refine wpAny_done (by kernel_rfl) ?_ _
  go_wp2_with fail
  go_ret
  exact ⟨rfl, ow', _, rs, _, ts, ws, HEX.out, H1E.out, H2E.out, HKP.out⟩
theorem begin_any (ow : Nat → Nat) (w : World) (b j p n : Nat) (g : Gr) (W : WS) (T : TS) (v rs us ts ws : Value) (k o : Int) (a bb cc x : Int) (h1 : WAt ow w b W n v) (h2 : TAt ow w b j p g T rs us ts ws) (hu : T.undo.length ≤ 1048576) :
    Calls Try.prog 40 #[.pointer (some ⟨p, 0, none⟩), .agg #[.int .u8 k, .int .u8 o, .int .i64 a, .int .i64 bb, .int .i64 cc, .int .i64 x]] w (StepE ow b j p g n (W, { T with inside := true, since := W.words.length, undo := .cut :: T.undo }, false) w) := by
  have he : Ext ow (fun k => if k < w.heap.size then ow k else 15 + 8 * j) w := fun k hk => by simp [hk]
  exact (begin_z _ w b j p n g W T v rs us ts ws k o a bb cc x (h1.keeps (But.of (ls := []) (Below.refl _ _)) he (by simp) (by simp)) (h2.keeps (But.of (ls := []) (Below.refl _ _)) he (by simp)) (fun k hk => by simp; omega) hu).mono fun _ _ h => h.relab he
set_option maxHeartbeats 8000000 in
theorem done_any (ow : Nat → Nat) (w : World) (b j p n : Nat) (g : Gr) (W : WS) (T : TS) (v rs us ts ws : Value) (k o : Int) (a bb cc x : Int) (h1 : WAt ow w b W n v) (h2 : TAt ow w b j p g T rs us ts ws) :
    Calls Try.prog 41 #[.pointer (some ⟨p, 0, none⟩), .agg #[.int .u8 k, .int .u8 o, .int .i64 a, .int .i64 bb, .int .i64 cc, .int .i64 x]] w (StepE ow b j p g n (W, { T with inside := false, undo := [] }, true) w) := by
  obtain ⟨U, hU⟩ : ∃ U, U = w.alloc (.cells #[.int .u8 k, .int .u8 o, .int .i64 a, .int .i64 bb, .int .i64 cc, .int .i64 x] 53) := ⟨_, rfl⟩
  have hBU : Below w.heap.size w U := by rw [hU]; exact below_box w _
  have h1U := h1.keeps (But.of (ls := []) hBU) (.refl _ _) (by simp) (by simp)
  have h2U := h2.keeps (But.of (ls := []) hBU) (.refl _ _) (by simp)
  have hlp : p < w.heap.size := heap_lt h2.box
  have hzU : U.heap.size = w.heap.size + 1 := by rw [hU]; simp
  have d7 := h2.cells.2.2.2.2.2.1
  have f7 := Lib.frozen_of_heap h2.box 7
  have d9 := h2.cells.2.2.2.2.2.2.2.1
  have f9 := Lib.frozen_of_heap h2.box 9
  have hs1 : But ow [10 + 8 * j] U ((U.setCell ⟨p, 7, none⟩ (.bool false)).setCell ⟨p, 9, none⟩ (.slice none 0 0)) := but_then (but_set _ _ h2.lab) (but_set _ _ h2.lab)
  have hbx : ((U.setCell ⟨p, 7, none⟩ (.bool false)).setCell ⟨p, 9, none⟩ (.slice none 0 0)).heap[p]? = some (.cells (threadC b g rs { T with inside := false, undo := [] } (.slice none 0 0) ts ws) 80 (0, 0)) := by
    rw [heap_setCell_same _ p 9 _ _ _ (tset_box 7 _ h2U.box rfl)]
    rfl
  have hno : ∀ k, k ≠ 0 → 10 + k + 8 * j ∉ [10 + 8 * j] := fun k h0 q => by simp at q; omega
  have hfin : StepE ow b j p g n (W, { T with inside := false, undo := [] }, true) w (.returned (.bool true)) ((U.setCell ⟨p, 7, none⟩ (.bool false)).setCell ⟨p, 9, none⟩ (.slice none 0 0)) :=
    ⟨rfl, ow, v, rs, .slice none 0 0, ts, ws, .refl _ _, h1U.keeps hs1 (.refl _ _) (by simp; omega) (by simp; omega), ⟨hbx, h2.lab, regs_keep h2U.regs hs1 (.refl _ _) (hno 1 (by omega)), ⟨[], World.ownsRow_nil _ _ _ _, rfl, fun k hk => by cases hk⟩, h2U.told.keeps hs1 (.refl _ _) (hno 3 (by omega)), h2U.waiting.keeps hs1 (.refl _ _) (hno 4 (by omega))⟩, (Kp.of hBU).trans (.refl _ _) (hs1.kp (by intro l hl; simp at hl; unfold Mine; omega))⟩
  have hV : (((w.setCell ⟨p, 7, none⟩ (.bool false)).setCell ⟨p, 9, none⟩ (.slice none 0 0)).alloc (.cells #[.int .u8 k, .int .u8 o, .int .i64 a, .int .i64 bb, .int .i64 cc, .int .i64 x] 53)) = (U.setCell ⟨p, 7, none⟩ (.bool false)).setCell ⟨p, 9, none⟩ (.slice none 0 0) := by
    rw [hU]
    go_simp
  have HV := Lib.hid hV
  have HFIN := Lib.hid hfin
  clear h1 h2 h1U h2U hBU hU hs1 hbx hno hfin hV hzU
  go_enter Try.func41, Try.ntmps41
  go_wp2_with fail
  go_ret
  rw [HV.out]
  exact HFIN.out
end Go.Proofs.Ytijciojipcgiaaa
