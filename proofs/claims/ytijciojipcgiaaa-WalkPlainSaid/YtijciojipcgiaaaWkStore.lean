/- Stores. -/
import Derived.Test.YtijciojipcgiaaaRows
import Derived.Test.YtijciojipcgiaaaWkHold
import Derived.Test.YtijciojipcgiaaaWkPush
import Derived.Test.YtijciojipcgiaaaIrSizes
import Derived.Test.YtijciojipcgiaaaIrBoth
import Derived.Test.YtijciojipcgiaaaWkBack
import Derived.LoopTactic
import Derived.LoopN
import Derived.WalkKit
import Derived.WalkSpells
import Derived.WalkLawsBesides
import Derived.Lib.Hide
import Derived.OrdersHeld
import Derived.Deep.RegionHeld
import Derived.Deep.DrawnRows
import Derived.RegionTactic
import Derived.Deep.RegionHeld3
import Derived.IntWalk
namespace Go.Proofs.Ytijciojipcgiaaa
open Go.RowKit
set_option maxRecDepth 100000
attribute [local go_sem ↓] bld_eq bls_eq

theorem hmf26 : ∀ (fn : Go.Fn) (first cap : Array Value) (w : World), (Instr.makeFunc fn first cap).run Try.prog w = .ok (.func fn first cap) w := fun _ _ _ _ => rfl
theorem made_oneF (fn : Go.Fn) (xs ys : Array Value) (w : World) : (bls 78 1 #[(0, .func fn xs ys)]).run Try.prog w = .ok (.slice (some ⟨w.heap.size, 0, none⟩) 1 1) (w.alloc (.cells #[.func fn xs ys] 1)) := bls_of 78 1 1 1 #[(0, .func fn xs ys)] #[.func fn xs ys] (by kernel_rfl) (by kernel_rfl) (by kernel_rfl) (by omega) (by omega) (by kernel_rfl) (by kernel_rfl) w
theorem setW_end {ow : Nat → Nat} {u u' : World} {b j p n N wg l cap : Nat} {g : Gr} {W : WS} {T : TS} {v rs us ts ws : Value} (h1 : WAt ow u b W n v) (h2 : TAt ow u b j p g T rs us ts ws) (hN : N < W.words.length) (hv : v = .slice (some ⟨wg, 0, none⟩) l cap) (x : Int) (hu : u' = (u.setCell ⟨wg, N, none⟩ (.int .i64 x)).drew) :
    StepE ow b j p g n ({ W with words := W.words.set N x }, T, false) u (.returned (.bool false)) u' := by
  subst hu
  obtain ⟨wg', cap', z, e, _, _, _, _, _, _, hset⟩ := h1.setW N hN
  have : wg' = wg := by rw [hv] at e; cases e; rfl
  subst this
  obtain ⟨h3, h4⟩ := hset x
  have hd : But ow [] (u.setCell ⟨wg', N, none⟩ (.int .i64 x)) (u.setCell ⟨wg', N, none⟩ (.int .i64 x)).drew := But.of (below_drewN' (Below.refl _ _))
  refine ⟨rfl, ow, v, rs, us, ts, ws, .refl _ _, h3.keeps hd (.refl _ _) (by simp) (by simp), (h2.keeps h4 (.refl _ _) (by simp; omega)).keeps hd (.refl _ _) (by simp), (h4.kp (by intro l hl; rw [List.mem_singleton.1 hl]; unfold Mine; omega)).drew⟩
set_option maxHeartbeats 8000000 in
theorem store_z (ow : Nat → Nat) (w : World) (b j p n : Nat) (g : Gr) (W : WS) (T : TS) (v rs us ts ws : Value) (k o : Int) (a bb : Nat) (cc x : Int) (h1 : WAt ow w b W n v) (h2 : TAt ow w b j p g T rs us ts ws) (hl0 : ∀ k, w.heap.size ≤ k → ow k = 15 + 8 * j) (ha : a < T.regs.length) (hb : bb < T.regs.length) (hc : cc < 0 ∨ cc.toNat < T.regs.length) (hok : UOk T.undo T.since W.words.length) (hu : T.undo.length ≤ 1048576) :
    Calls Try.prog 36 #[.pointer (some ⟨p, 0, none⟩), .agg #[.int .u8 k, .int .u8 o, .int .i64 (a : Int), .int .i64 (bb : Int), .int .i64 cc, .int .i64 x]] w (StepE ow b j p g n (storeT W T ⟨k, o, (a : Int), (bb : Int), cc, x⟩) w) := by
  obtain ⟨rg, er, hrg, hrl⟩ := h2.regs
  have her := er
  obtain ⟨U, hU⟩ : ∃ U, U = (w.alloc (.cells #[.pointer (some ⟨p, 0, none⟩)] 63)).alloc (.cells #[.int .u8 k, .int .u8 o, .int .i64 (a : Int), .int .i64 (bb : Int), .int .i64 cc, .int .i64 x] 53) := ⟨_, rfl⟩
  have hBU : Below w.heap.size w U := by rw [hU]; exact (below_box w _).trans ((below_box _ _).mono (by simp))
  have hzU : U.heap.size = w.heap.size + 2 := by rw [hU]; simp
  have hO : U.heap[w.heap.size + 1]? = some (.cells #[.int .u8 k, .int .u8 o, .int .i64 (a : Int), .int .i64 (bb : Int), .int .i64 cc, .int .i64 x] 53 (0, 0)) := by rw [hU]; have := (MapKept.heap_alloc (w.alloc (.cells #[.pointer (some ⟨p, 0, none⟩)] 63)) (.cells #[.int .u8 k, .int .u8 o, .int .i64 (a : Int), .int .i64 (bb : Int), .int .i64 cc, .int .i64 x] 53)).1; simpa using this
  have hC2 : U.heap[w.heap.size]? = some (.cells #[.pointer (some ⟨p, 0, none⟩)] 63 (0, 0)) := by rw [hU]; exact (Below.heap_alloc _ _ _ (by simp)).trans (MapKept.heap_alloc w _).1
  have h1U := h1.keeps (But.of (ls := []) hBU) (.refl _ _) (by simp) (by simp)
  have h2U := h2.keeps (But.of (ls := []) hBU) (.refl _ _) (by simp)
  have hlp : p < w.heap.size := heap_lt h2.box
  have hlb : b < w.heap.size := heap_lt h1.box
  have hlr : rg < w.heap.size := heap_lt hrg
  have hrgU := (hBU.block rg hlr).trans hrg
  have c2 := cellI hC2 0 _ rfl
  obtain ⟨d0, d3, d4, d5, d6, d7, d8, d9, d10, d11, d12⟩ := h2U.cells
  obtain ⟨e0, e1, e2⟩ := h1U.cells
  rw [her] at d4
  obtain ⟨i0, i1, i2, i3, i4, i5⟩ := own6 hO
  obtain ⟨NR, hNR⟩ : ∃ N, N = T.regs.length := ⟨_, rfl⟩
  have hax : a < NR := by rw [hNR]; exact ha
  have HFA := Lib.hid (fun (u : World) (hb : Below U.heap.size U u) => fails_any ow u b j p n g W T v rs us ts ws 8 (h1U.keeps (But.of (ls := []) hb) (.refl _ _) (by simp) (by simp)) (h2U.keeps (But.of (ls := []) hb) (.refl _ _) (by simp)) hok hu)
  have HME := Lib.hid (met_any ow U b j p n g W T v rs us ts ws k o (a : Int) bb cc hc x h1U h2U hb)
  obtain ⟨i, hi⟩ : ∃ i : In, i = ⟨k, o, (a : Int), (bb : Int), cc, x⟩ := ⟨_, rfl⟩
  have hia : i.a = (a : Int) := by rw [hi]
  rw [← hi] at HME ⊢
  obtain ⟨y, hy⟩ : ∃ y, T.regs[a]? = some y := ⟨_, List.getElem?_eq_getElem ha⟩
  have s0 := wds_cell hrgU a y hy
  have hreg : T.reg i.a = y := by rw [hia]; exact reg_of hy
  obtain ⟨A, hA⟩ : ∃ A, A = metA T i := ⟨_, rfl⟩
  unfold MetE at HME
  rw [← hA] at HME
  have hW0 := h1U
  have HL0 := Lib.hid hl0
  have HUU := Lib.hid hu
  have HC2 := Lib.hid hC2
  have HT9 := Lib.hid h2U.undo
  have hmf := hmf26
  rw [← hNR] at d4
  have H1 := Lib.hid h1U
  have H2 := Lib.hid h2U
  have HB := Lib.hid hBU
  have HU := Lib.hid hU
  have HER := Lib.hid her
  have HNR := Lib.hid hNR
  clear d3 d5 d6 d7 d8 d9 d10 d11 d12 e0 e1 e2
  clear h1 h2 h1U h2U hBU hO hrg hrgU hrl er her hU hNR ha hb hc hok hu hy hi hl0 hC2
  by_cases hh : hasW W A = true
  · have hres : storeT W T i = ({ W with words := W.words.set A.toNat y }, { T with undo := .put A.toNat ((W.words[A.toNat]?).getD 0) :: T.undo }, false) := by unfold storeT; rw [← hA, if_pos hh, hreg]
    rw [hres]
    rw [hh] at HME
    have hA1 : ∃ N : Nat, A = (N : Int) ∧ N < W.words.length := by
      unfold hasW at hh
      simp only [Bool.and_eq_true, decide_eq_true_eq] at hh
      exact ⟨A.toNat, by omega, by omega⟩
    obtain ⟨N, rfl, hN⟩ := hA1
    obtain ⟨wg, cap, z, rfl, hcap, hwg, hz, hcell, hfz, hlw, _⟩ := hW0.setW N hN
    have hwm := hW0.many
    obtain ⟨e0, _, _⟩ := hW0.cells
    rw [Int.toNat_natCast, hz, Option.getD_some]
    obtain ⟨NW, hNW⟩ : ∃ M, M = W.words.length := ⟨_, rfl⟩
    have hN2 : N < NW := by rw [hNW]; exact hN
    rw [← hNW] at hcap hwm e0
    have HN := Lib.hid hN
    have HNW := Lib.hid hNW
    clear hres hh hia hA hNW hz hW0 hfz hreg hN
    go_enter Try.func36, Try.ntmps36
    go_wp2_with fail
    rw [← HU.out]
    refine HME.out.mono ?_; rintro e w2 ⟨rfl, hb2⟩
    obtain ⟨W3, hW3⟩ : ∃ W3, W3 = w2.alloc (.cells #[.int .i64 (N : Int)] 2) := ⟨_, rfl⟩
    have q1 : Below w2.heap.size w2 W3 := by rw [hW3]; exact below_box _ _
    have q2 : W3.heap[w2.heap.size]? = some (.cells #[.int .i64 (N : Int)] 2 (0, 0)) := by rw [hW3]; exact (MapKept.heap_alloc _ _).1
    have q3 : W3.heap.size = w2.heap.size + 1 := by rw [hW3]; simp
    have hz2 := hb2.size
    have hb3 : Below U.heap.size U W3 := hb2.trans (q1.mono hz2)
    have c2' := (hb3.cell (p := ⟨w.heap.size, 0, none⟩) (by dsimp only; omega)).trans c2
    rw [hW3] at c2'
    have HW3 := Lib.hid hW3
    have HB3 := Lib.hid hb3
    have HC5 := Lib.hid q2
    clear hb2 q1 q2 hb3 hW3 c2
    go_wp2_with fail
    rw [← HW3.out] at c2' ⊢
    have c5 := cellI HC5.out 0 _ rfl
    have i2 := (HB3.out.cell (p := ⟨w.heap.size + 1, 2, none⟩) (by dsimp only; omega)).trans i2
    have d4 := (HB3.out.cell (p := ⟨p, 4, none⟩) (by dsimp only; omega)).trans d4
    have d0 := (HB3.out.cell (p := ⟨p, 0, none⟩) (by dsimp only; omega)).trans d0
    have e0 := (HB3.out.cell (p := ⟨b, 0, none⟩) (by dsimp only; omega)).trans e0
    have hcell := (HB3.out.cell (p := ⟨wg, N, none⟩) hwg).trans hcell
    have s0 := (HB3.out.cell (p := ⟨rg, a, none⟩) (by dsimp only; omega)).trans s0
    clear i0 i1 i3 i4 i5
    refine wp_region_late (S := SameTo (W3.heap.size) W3) (fun j => decide (11 ≤ j)) (by kernel_rfl) (SameTo.drew _ _) (fun hSw => ?_)
    refine wpAnyL_take (i := 0) (v := .pointer (some ⟨p, 0, none⟩)) rfl (by kernel_rfl) (by kernel_rfl) (by kernel_rfl) rfl (by kernel_rfl) (fun _ _ _ h => h) (Or.inl ⟨by rfl, fun W hW => ?_⟩) hSw ?_
    · have c2' := hW.cell (by dsimp only; omega) c2'
      first | (go_simp; done) | rfl
    try simp only [Act.put, List.setIfInBounds_toArray]
    refine wpAnyL_take (i := 1) (v := .pointer (some ⟨p, 0, none⟩)) rfl (by kernel_rfl) (by kernel_rfl) (by kernel_rfl) rfl (by kernel_rfl) (fun _ _ _ h => h) (Or.inl ⟨by rfl, fun W hW => ?_⟩) hSw ?_
    · first | (go_simp; done) | rfl
    try simp only [Act.put]
    refine wpAnyL_take (i := 2) (v := .pointer (some ⟨p, 0, none⟩)) rfl (by kernel_rfl) (by kernel_rfl) (by kernel_rfl) rfl (by kernel_rfl) (fun _ _ _ h => h) (Or.inl ⟨by rfl, fun W hW => ?_⟩) hSw ?_
    · first | (go_simp; done) | rfl
    try simp only [Act.put]
    refine wpAnyL_take (i := 3) (v := .pointer (some ⟨b, 0, none⟩)) rfl (by kernel_rfl) (by kernel_rfl) (by kernel_rfl) rfl (by kernel_rfl) (fun _ _ _ h => h) (Or.inl ⟨by rfl, fun W hW => ?_⟩) hSw ?_
    · have d0 := hW.cell (by dsimp only; omega) d0
      first | (go_simp; done) | rfl
    try simp only [Act.put]
    refine wpAnyL_take (i := 4) (v := .pointer (some ⟨b, 0, none⟩)) rfl (by kernel_rfl) (by kernel_rfl) (by kernel_rfl) rfl (by kernel_rfl) (fun _ _ _ h => h) (Or.inl ⟨by rfl, fun W hW => ?_⟩) hSw ?_
    · first | (go_simp; done) | rfl
    try simp only [Act.put]
    refine wpAnyL_take (i := 5) (v := .pointer (some ⟨b, 0, none⟩)) rfl (by kernel_rfl) (by kernel_rfl) (by kernel_rfl) rfl (by kernel_rfl) (fun _ _ _ h => h) (Or.inl ⟨by rfl, fun W hW => ?_⟩) hSw ?_
    · first | (go_simp; done) | rfl
    try simp only [Act.put]
    refine wpAnyL_take (i := 6) (v := .slice (some ⟨wg, 0, none⟩) NW cap) rfl (by kernel_rfl) (by kernel_rfl) (by kernel_rfl) rfl (by kernel_rfl) (fun _ _ _ h => h) (Or.inl ⟨by rfl, fun W hW => ?_⟩) hSw ?_
    · have e0 := hW.cell (by dsimp only; omega) e0
      first | (go_simp; done) | rfl
    try simp only [Act.put]
    refine wpAnyL_take (i := 7) (v := .int .i64 (N : Int)) rfl (by kernel_rfl) (by kernel_rfl) (by kernel_rfl) rfl (by kernel_rfl) (fun _ _ _ h => h) (Or.inl ⟨by rfl, fun W hW => ?_⟩) hSw ?_
    · have c5 := hW.cell (by dsimp only; omega) c5
      first | (go_simp; done) | rfl
    try simp only [Act.put]
    refine wpAnyL_take (i := 8) (v := .pointer (some ⟨wg, N, none⟩)) rfl (by kernel_rfl) (by kernel_rfl) (by kernel_rfl) rfl (by kernel_rfl) (fun _ _ _ h => h) (Or.inl ⟨by rfl, fun W hW => ?_⟩) hSw ?_
    · first | (go_simp; done) | rfl
    try simp only [Act.put]
    refine wpAnyL_take (i := 9) (v := .int .i64 z) rfl (by kernel_rfl) (by kernel_rfl) (by kernel_rfl) rfl (by kernel_rfl) (fun _ _ _ h => h) (Or.inl ⟨by rfl, fun W hW => ?_⟩) hSw ?_
    · have hcell := hW.cell (by dsimp only; omega) hcell
      first | (go_simp; done) | rfl
    try simp only [Act.put]
    refine wpAnyL_ready (rs := [10]) (by kernel_rfl) (by simp) (AllReadyL.cons rfl rfl (fun J hK => ?_) AllReadyL.nil)
    rw [if_pos (by rfl)]
    clear hSw
    go_simp
    have hq3 := (MapKept.heap_alloc W3.drew (.cells #[.int .i64 0] 2)).1
    refine hK.out _ _ (SameTo.of (below_box W3 (.cells #[.int .i64 0] 2)).drew) (fun hSw => ?_)
    clear hK J
    try simp only [Act.put, List.setIfInBounds_toArray, List.set_cons_zero, List.set_cons_succ]
    refine wpAnyL_only (rs := [11]) (by kernel_rfl) (by simp) (by rfl) ?_
    refine wpAny_one (i := 11) (by kernel_rfl) rfl (fun J hK => ?_)
    rw [if_pos (by rfl)]
    go_simp
    refine hK.out _ _ ?_
    clear hK J
    try simp only [Act.put, List.setIfInBounds_toArray, List.set_cons_zero, List.set_cons_succ]
    refine wpAny_done (by kernel_rfl) ?_ _
    obtain ⟨W4, hW4⟩ : ∃ W4, W4 = (W3.alloc (.cells #[.int .i64 z] 2)).drew := ⟨_, rfl⟩
    have hb4 : Below W3.heap.size W3 W4 := by rw [hW4]; exact (below_box _ _).drew
    have hc7 : W4.heap[w2.heap.size + 1]? = some (.cells #[.int .i64 z] 2 (0, 0)) := by rw [hW4, ← q3]; exact (MapKept.heap_alloc _ _).1
    have hz4 : W4.heap.size = w2.heap.size + 2 := by rw [hW4]; simp [q3]
    rw [← hW4]
    have hb4U : Below U.heap.size U W4 := HB3.out.trans (hb4.mono (by omega))
    have H14 := Lib.hid (H1.out.keeps (But.of (ls := []) (hb4U.drew)) (.refl _ _) (by simp) (by simp))
    have H24 := Lib.hid (H2.out.keeps (But.of (ls := []) (hb4U.drew)) (.refl _ _) (by simp))
    have hUN : UnAt ow W4.drew j p (.put N z) (.func (.func 56) #[] #[.pointer (some ⟨w2.heap.size + 1, 0, none⟩), .pointer (some ⟨w.heap.size, 0, none⟩), .pointer (some ⟨w2.heap.size, 0, none⟩)]) :=
      ⟨w2.heap.size + 1, w.heap.size, w2.heap.size, rfl, by omega, hc7, (hb4U.block _ (by omega)).trans HC2.out, (hb4.block _ (by omega)).trans HC5.out, HL0.out _ (by omega), HL0.out _ (by omega), HL0.out _ (by omega)⟩
    obtain ⟨v', w5, hr, ⟨uq, uc, hv'⟩, g0, f0, hz5, ow', he, h1e, h2e, hbe, hb5⟩ := undo_push ow W4.drew b j p n g W T (.slice (some ⟨wg, 0, none⟩) W.words.length cap) rs us ts ws _ (.put N z) H14.out H24.out hUN rfl HUU.out
    subst hv'
    have d9 : W4.cell? ⟨p, 9, none⟩ = some us := H24.out.cells.2.2.2.2.2.2.2.1
    have c2w := (hb4.cell (p := ⟨w.heap.size, 0, none⟩) (by dsimp only; omega)).trans c2'
    have hs5 : SameOn (fun k => k = p ∨ k = w.heap.size) W4 w5 := by
      rintro k (rfl | rfl)
      · exact hb5.block _ (by show _ < W4.heap.size; omega) (by rw [H2.out.lab]; simp)
      · exact hb5.block _ (by show _ < W4.heap.size; omega) (by rw [HL0.out _ (Nat.le_refl _)]; simp)
    have HS5 := Lib.hid hs5
    have HR := Lib.hid hr
    have H1E := Lib.hid h1e
    have H2E := Lib.hid h2e
    have HBE := Lib.hid hbe
    have HE := Lib.hid he
    have HZ4 := Lib.hid hz4
    have HHI := Lib.hid hb4
    have HC4 := Lib.hid hc7
    have e3 := made_oneF
    have hlp4 : p < W4.heap.size := by omega
    have hlw4 : w.heap.size < W4.heap.size := by omega
    obtain ⟨us0, hus0⟩ : ∃ u0, u0 = us := ⟨_, rfl⟩
    clear hW4 hb4 hc7 hz4 hb4U hUN hr h1e h2e hbe he hb5 hs5 q3 hSw
    go_wp2_with fail
    refine wp_region_late (S := SameOn (fun k => k = p ∨ k = w.heap.size) W4) (fun j => decide (8 ≤ j)) (by kernel_rfl) (SameOn.drew _ _) (fun hSw => ?_)
    refine wpAnyL_take (i := 0) (v := .pointer (some ⟨p, 0, none⟩)) rfl (by kernel_rfl) (by kernel_rfl) (by kernel_rfl) rfl (by kernel_rfl) (fun _ _ _ h => h) (Or.inl ⟨by rfl, fun W hW => ?_⟩) hSw ?_
    · have c2w := hW.cell (by dsimp only; omega) c2w
      first | (go_simp; done) | rfl
    try simp only [Act.put, List.setIfInBounds_toArray]
    refine wpAnyL_take (i := 1) (v := .pointer (some ⟨p, 0, none⟩)) rfl (by kernel_rfl) (by kernel_rfl) (by kernel_rfl) rfl (by kernel_rfl) (fun _ _ _ h => h) (Or.inl ⟨by rfl, fun W hW => ?_⟩) hSw ?_
    · have c2w := hW.cell (by dsimp only; omega) c2w
      first | (go_simp; done) | rfl
    try simp only [Act.put]
    refine wpAnyL_take (i := 2) (v := .pointer (some ⟨p, 0, none⟩)) rfl (by kernel_rfl) (by kernel_rfl) (by kernel_rfl) rfl (by kernel_rfl) (fun _ _ _ h => h) (Or.inl ⟨by rfl, fun W hW => ?_⟩) hSw ?_
    · first | (go_simp; done) | rfl
    try simp only [Act.put]
    refine wpAnyL_take (i := 3) (v := .pointer (some ⟨p, 9, none⟩)) rfl (by kernel_rfl) (by kernel_rfl) (by kernel_rfl) rfl (by kernel_rfl) (fun _ _ _ h => h) (Or.inl ⟨by rfl, fun W hW => ?_⟩) hSw ?_
    · first | (go_simp; done) | rfl
    try simp only [Act.put]
    refine wpAnyL_take (i := 4) (v := us) rfl (by kernel_rfl) (by kernel_rfl) (by kernel_rfl) rfl (by kernel_rfl) (fun _ _ _ h => h) (Or.inl ⟨by rfl, fun W hW => ?_⟩) hSw ?_
    · have d9 := hW.cell (by dsimp only; omega) d9
      first | (go_simp; done) | rfl
    try simp only [Act.put]
    refine wpAnyL_take (i := 5) (v := .func (.func 56) #[] #[.pointer (some ⟨w2.heap.size + 1, 0, none⟩), .pointer (some ⟨w.heap.size, 0, none⟩), .pointer (some ⟨w2.heap.size, 0, none⟩)]) rfl (by kernel_rfl) (by kernel_rfl) (by kernel_rfl) rfl (by kernel_rfl) (fun _ _ _ h => h) (Or.inl ⟨by rfl, fun W hW => ?_⟩) hSw ?_
    · first | (go_simp; done) | rfl
    try simp only [Act.put]
    refine wpAnyL_ready (rs := [6]) (by kernel_rfl) (by simp) (AllReadyL.cons rfl rfl (fun J hK => ?_) AllReadyL.nil)
    rw [if_pos (by rfl)]
    clear hSw
    go_simp
    
    refine hK.out _ _ (fun k hk => (Below.heap_alloc W4.drew _ k (by show _ < W4.heap.size; rcases hk with rfl | rfl <;> omega))) (fun hSw => ?_)
    clear hK J
    try simp only [Act.put, List.setIfInBounds_toArray, List.set_cons_zero, List.set_cons_succ]
    refine wpAnyL_ready (rs := [7]) (by kernel_rfl) (by simp) (AllReadyL.cons rfl rfl (fun J hK => ?_) AllReadyL.nil)
    rw [if_pos (by rfl)]
    clear hSw
    refine Lib.wp_append_run _ _ _ _ _ rfl _ _ rfl rfl _ w5 HR.out ?_
    refine hK.out _ _ (HS5.out) (fun hSw => ?_)
    clear hK J
    try simp only [Act.put, List.setIfInBounds_toArray]
    refine wpAnyL_only (rs := [8]) (by kernel_rfl) (by simp) (by rfl) ?_
    refine wpAny_one (i := 8) (by kernel_rfl) rfl (fun J hK => ?_)
    rw [if_pos (by rfl)]
    go_simp
    refine hK.out _ _ ?_
    clear hK J
    try simp only [Act.put, List.setIfInBounds_toArray, List.set_cons_zero, List.set_cons_succ]
    refine wpAny_one (i := 9) (by kernel_rfl) rfl (fun J hK => ?_)
    rw [if_pos (by rfl)]
    go_simp
    refine hK.out _ _ ?_
    clear hK J
    try simp only [Act.put, List.setIfInBounds_toArray, List.set_cons_zero, List.set_cons_succ]
    refine wpAny_one (i := 10) (by kernel_rfl) rfl (fun J hK => ?_)
    rw [if_pos (by rfl)]
    go_simp
    refine hK.out _ _ ?_
    clear hK J
    try simp only [Act.put, List.setIfInBounds_toArray, List.set_cons_zero, List.set_cons_succ]
    refine wpAny_done (by kernel_rfl) ?_ _
    obtain ⟨W6, hW6⟩ : ∃ W6, W6 = w5.setCell ⟨p, 9, none⟩ (.slice uq (T.undo.length + 1) uc) := ⟨_, rfl⟩
    have H1E6 := Lib.hid (show WAt ow' W6 b W n _ by rw [hW6]; exact H1E.out)
    have H2E6 := Lib.hid (show TAt ow' W6 b j p g { T with undo := .put N z :: T.undo } rs _ ts ws by rw [hW6]; exact H2E.out)
    have hbe6 : But ow [12 + 8 * j, 10 + 8 * j] W4.drew W6 := by rw [hW6]; exact HBE.out
    rw [← hW6]
    have hs6 : ∀ k, k < W4.heap.size → (ow k = 15 + 8 * j ∨ ow k = 2 ∨ ow k = 1 ∨ ow k = 11 + 8 * j) → W6.heap[k]? = W4.heap[k]? := fun k hk h => hbe6.block k hk (by simp; omega)
    have hzz : W4.heap.size = w2.heap.size + 2 := HZ4.out
    have hw34 : W3.heap.size = w2.heap.size + 1 := by rw [HW3.out]; simp
    have mv : ∀ k off u, k < W3.heap.size → (ow k = 15 + 8 * j ∨ ow k = 2 ∨ ow k = 1 ∨ ow k = 11 + 8 * j) → W3.cell? ⟨k, off, none⟩ = some u → W6.cell? ⟨k, off, none⟩ = some u := fun k off u hk h hc => by
      rw [← hc]
      simp only [World.cell?, hs6 k (by omega) h, HHI.out.block k hk]
    obtain ⟨rg', er', hrg', hrl'⟩ := H2.out.regs
    have hrgl : ow rg = 11 + 8 * j := by
      rw [HER.out] at er'; cases er'; exact hrl'
    have i2 := mv _ _ _ (by omega) (.inl (HL0.out _ (by omega))) i2
    have c5 := mv _ _ _ (by omega) (.inl (HL0.out _ (by omega))) c5
    have e0 := mv _ _ _ (by omega) (.inr (.inr (.inl H1.out.lab))) e0
    have s0 := mv _ _ _ (by omega) (.inr (.inr (.inr hrgl))) s0
    have hwl : ow wg = 2 := H1.out.labr wg rfl
    have hcell := mv _ _ _ (by omega) (.inr (.inl hwl)) hcell
    have fz : W6.frozen? ⟨wg, N, none⟩ = false := by
      obtain ⟨wg2, cap2, z2, e2, _, _, _, _, q, _, _⟩ := H1E6.out.setW N HN.out
      cases e2
      exact q
    have c26 : W6.cell? ⟨w.heap.size, 0, none⟩ = some (.pointer (some ⟨p, 0, none⟩)) := mv _ _ _ (by omega) (.inl (HL0.out _ (by omega))) c2'
    obtain ⟨d0', d3', d4', _, _, _, _, _, _, _, _⟩ := H2E6.out.cells
    rw [HER.out] at d4'
    have d4'' : W6.cell? ⟨p, 4, none⟩ = some (.slice (some ⟨rg, 0, none⟩) NR NR) := by rw [HNR.out]; exact d4'
    have hz6 : W4.heap.size ≤ W6.heap.size := hbe6.size
    have HK6 := Lib.hid (show Kp ow j w W6 from ((Kp.of (HB.out.trans (HB3.out.mono (by omega)))).trans (.refl _ _) (Kp.of (HHI.out.drew.mono (by omega)) |>.trans (.refl _ _) (hbe6.kp (j := j) (by intro l hl; simp at hl; unfold Mine; omega)))))
    have HEX6 := Lib.hid (show Ext ow ow' w from fun k hk => HE.out k (by show _ < W4.heap.size; omega))
    clear hW6 hbe6 hs6 mv hrg' hrl' er' hrgl d4' d4 d0 c2' d9 c2w g0 f0 hSw e3
    go_wp2_with fail
    refine wp_region_late (S := SameTo (W6.heap.size) W6) (fun j => decide (16 ≤ j)) (by kernel_rfl) (SameTo.drew _ _) (fun hSw => ?_)
    refine wpAnyL_take (i := 0) (v := .pointer (some ⟨p, 0, none⟩)) rfl (by kernel_rfl) (by kernel_rfl) (by kernel_rfl) rfl (by kernel_rfl) (fun _ _ _ h => h) (Or.inl ⟨by rfl, fun W hW => ?_⟩) hSw ?_
    · have c26 := hW.cell (by dsimp only; omega) c26
      first | (go_simp; done) | rfl
    try simp only [Act.put, List.setIfInBounds_toArray]
    refine wpAnyL_take (i := 1) (v := .pointer (some ⟨p, 0, none⟩)) rfl (by kernel_rfl) (by kernel_rfl) (by kernel_rfl) rfl (by kernel_rfl) (fun _ _ _ h => h) (Or.inl ⟨by rfl, fun W hW => ?_⟩) hSw ?_
    · first | (go_simp; done) | rfl
    try simp only [Act.put]
    refine wpAnyL_take (i := 2) (v := .pointer (some ⟨p, 0, none⟩)) rfl (by kernel_rfl) (by kernel_rfl) (by kernel_rfl) rfl (by kernel_rfl) (fun _ _ _ h => h) (Or.inl ⟨by rfl, fun W hW => ?_⟩) hSw ?_
    · first | (go_simp; done) | rfl
    try simp only [Act.put]
    refine wpAnyL_take (i := 3) (v := .pointer (some ⟨b, 0, none⟩)) rfl (by kernel_rfl) (by kernel_rfl) (by kernel_rfl) rfl (by kernel_rfl) (fun _ _ _ h => h) (Or.inl ⟨by rfl, fun W hW => ?_⟩) hSw ?_
    · have d0' := hW.cell (by dsimp only; omega) d0'
      first | (go_simp; done) | rfl
    try simp only [Act.put]
    refine wpAnyL_take (i := 4) (v := .pointer (some ⟨b, 0, none⟩)) rfl (by kernel_rfl) (by kernel_rfl) (by kernel_rfl) rfl (by kernel_rfl) (fun _ _ _ h => h) (Or.inl ⟨by rfl, fun W hW => ?_⟩) hSw ?_
    · first | (go_simp; done) | rfl
    try simp only [Act.put]
    refine wpAnyL_take (i := 5) (v := .pointer (some ⟨b, 0, none⟩)) rfl (by kernel_rfl) (by kernel_rfl) (by kernel_rfl) rfl (by kernel_rfl) (fun _ _ _ h => h) (Or.inl ⟨by rfl, fun W hW => ?_⟩) hSw ?_
    · first | (go_simp; done) | rfl
    try simp only [Act.put]
    refine wpAnyL_take (i := 6) (v := .slice (some ⟨wg, 0, none⟩) NW cap) rfl (by kernel_rfl) (by kernel_rfl) (by kernel_rfl) rfl (by kernel_rfl) (fun _ _ _ h => h) (Or.inl ⟨by rfl, fun W hW => ?_⟩) hSw ?_
    · have e0 := hW.cell (by dsimp only; omega) e0
      first | (go_simp; done) | rfl
    try simp only [Act.put]
    refine wpAnyL_take (i := 7) (v := .int .i64 (N : Int)) rfl (by kernel_rfl) (by kernel_rfl) (by kernel_rfl) rfl (by kernel_rfl) (fun _ _ _ h => h) (Or.inl ⟨by rfl, fun W hW => ?_⟩) hSw ?_
    · have c5 := hW.cell (by dsimp only; omega) c5
      first | (go_simp; done) | rfl
    try simp only [Act.put]
    refine wpAnyL_take (i := 8) (v := .pointer (some ⟨p, 0, none⟩)) rfl (by kernel_rfl) (by kernel_rfl) (by kernel_rfl) rfl (by kernel_rfl) (fun _ _ _ h => h) (Or.inl ⟨by rfl, fun W hW => ?_⟩) hSw ?_
    · have c26 := hW.cell (by dsimp only; omega) c26
      first | (go_simp; done) | rfl
    try simp only [Act.put]
    refine wpAnyL_take (i := 9) (v := .pointer (some ⟨p, 0, none⟩)) rfl (by kernel_rfl) (by kernel_rfl) (by kernel_rfl) rfl (by kernel_rfl) (fun _ _ _ h => h) (Or.inl ⟨by rfl, fun W hW => ?_⟩) hSw ?_
    · first | (go_simp; done) | rfl
    try simp only [Act.put]
    refine wpAnyL_take (i := 10) (v := .pointer (some ⟨p, 4, none⟩)) rfl (by kernel_rfl) (by kernel_rfl) (by kernel_rfl) rfl (by kernel_rfl) (fun _ _ _ h => h) (Or.inl ⟨by rfl, fun W hW => ?_⟩) hSw ?_
    · first | (go_simp; done) | rfl
    try simp only [Act.put]
    refine wpAnyL_take (i := 11) (v := .slice (some ⟨rg, 0, none⟩) NR NR) rfl (by kernel_rfl) (by kernel_rfl) (by kernel_rfl) rfl (by kernel_rfl) (fun _ _ _ h => h) (Or.inl ⟨by rfl, fun W hW => ?_⟩) hSw ?_
    · have d4'' := hW.cell (by dsimp only; omega) d4''
      first | (go_simp; done) | rfl
    try simp only [Act.put]
    refine wpAnyL_take (i := 12) (v := .pointer (some ⟨w.heap.size + 1, 2, none⟩)) rfl (by kernel_rfl) (by kernel_rfl) (by kernel_rfl) rfl (by kernel_rfl) (fun _ _ _ h => h) (Or.inl ⟨by rfl, fun W hW => ?_⟩) hSw ?_
    · first | (go_simp; done) | rfl
    try simp only [Act.put]
    refine wpAnyL_take (i := 13) (v := .int .i64 (a : Int)) rfl (by kernel_rfl) (by kernel_rfl) (by kernel_rfl) rfl (by kernel_rfl) (fun _ _ _ h => h) (Or.inl ⟨by rfl, fun W hW => ?_⟩) hSw ?_
    · have i2 := hW.cell (by dsimp only; omega) i2
      first | (go_simp; done) | rfl
    try simp only [Act.put]
    refine wpAnyL_take (i := 14) (v := .pointer (some ⟨rg, a, none⟩)) rfl (by kernel_rfl) (by kernel_rfl) (by kernel_rfl) rfl (by kernel_rfl) (fun _ _ _ h => h) (Or.inl ⟨by rfl, fun W hW => ?_⟩) hSw ?_
    · first | (go_simp; done) | rfl
    try simp only [Act.put]
    refine wpAnyL_take (i := 15) (v := .int .i64 y) rfl (by kernel_rfl) (by kernel_rfl) (by kernel_rfl) rfl (by kernel_rfl) (fun _ _ _ h => h) (Or.inl ⟨by rfl, fun W hW => ?_⟩) hSw ?_
    · have s0 := hW.cell (by dsimp only; omega) s0
      first | (go_simp; done) | rfl
    try simp only [Act.put]
    refine wpAnyL_only (rs := [16]) (by kernel_rfl) (by simp) (by rfl) ?_
    refine wpAny_one (i := 16) (by kernel_rfl) rfl (fun J hK => ?_)
    rw [if_pos (by rfl)]
    go_simp
    refine hK.out _ _ ?_
    clear hK J
    try simp only [Act.put, List.setIfInBounds_toArray, List.set_cons_zero, List.set_cons_succ]
    refine wpAny_one (i := 17) (by kernel_rfl) rfl (fun J hK => ?_)
    rw [if_pos (by rfl)]
    go_simp
    refine hK.out _ _ ?_
    clear hK J
    try simp only [Act.put, List.setIfInBounds_toArray, List.set_cons_zero, List.set_cons_succ]
    refine wpAny_done (by kernel_rfl) ?_ _
    go_wp2_with fail
    go_ret
    exact StepE.after HK6.out HEX6.out (setW_end H1E6.out H2E6.out HN.out rfl y rfl)
  · have hres : storeT W T i = failT W T 8 := by unfold storeT; rw [← hA, if_neg hh]
    rw [hres]
    have hh2 : hasW W A = false := by simpa using hh
    rw [hh2] at HME
    clear hres hh hh2 hia hA hW0 hreg
    go_enter Try.func36, Try.ntmps36
    go_wp2_with fail
    rw [← HU.out]
    refine HME.out.mono ?_; rintro e w2 ⟨rfl, hb2⟩
    obtain ⟨W3, hW3⟩ : ∃ W3, W3 = w2.alloc (.cells #[.int .i64 A] 2) := ⟨_, rfl⟩
    have q1 : Below w2.heap.size w2 W3 := by rw [hW3]; exact below_box _ _
    have q2 : W3.heap[w2.heap.size]? = some (.cells #[.int .i64 A] 2 (0, 0)) := by rw [hW3]; exact (MapKept.heap_alloc _ _).1
    have q3 : W3.heap.size = w2.heap.size + 1 := by rw [hW3]; simp
    have hz2 := hb2.size
    have hb3 : Below U.heap.size U W3 := hb2.trans (q1.mono hz2)
    have c2' := (hb3.cell (p := ⟨w.heap.size, 0, none⟩) (by dsimp only; omega)).trans c2
    rw [hW3] at c2'
    have HB3 := Lib.hid hb3
    have HW3 := Lib.hid hW3
    clear hb2 q1 q2 q3 hb3 hW3 c2 d0 d4 i0 i1 i2 i3 i4 i5 s0
    go_wp2_with fail
    rw [← HW3.out]
    refine (HFA.out W3 HB3.out).mono ?_; rintro e w3 hE
    obtain ⟨rfl, hR⟩ := (show e = .returned (.bool true) ∧ StepE ow b j p g n (failT W T 8) W3 e w3 from ⟨hE.1, hE⟩)
    have HR := Lib.hid hR
    clear hE hR
    go_wp2_with fail
    go_ret
    exact ((HR.out.from HB3.out).from HB.out)
theorem store_any (ow : Nat → Nat) (w : World) (b j p n : Nat) (g : Gr) (W : WS) (T : TS) (v rs us ts ws : Value) (k o : Int) (a bb : Nat) (cc x : Int) (h1 : WAt ow w b W n v) (h2 : TAt ow w b j p g T rs us ts ws) (ha : a < T.regs.length) (hb : bb < T.regs.length) (hc : cc < 0 ∨ cc.toNat < T.regs.length) (hok : UOk T.undo T.since W.words.length) (hu : T.undo.length ≤ 1048576) :
    Calls Try.prog 36 #[.pointer (some ⟨p, 0, none⟩), .agg #[.int .u8 k, .int .u8 o, .int .i64 (a : Int), .int .i64 (bb : Int), .int .i64 cc, .int .i64 x]] w (StepE ow b j p g n (storeT W T ⟨k, o, (a : Int), (bb : Int), cc, x⟩) w) := by
  have he : Ext ow (fun k => if k < w.heap.size then ow k else 15 + 8 * j) w := fun k hk => by simp [hk]
  exact (store_z _ w b j p n g W T v rs us ts ws k o a bb cc x (h1.keeps (But.of (ls := []) (Below.refl _ _)) he (by simp) (by simp)) (h2.keeps (But.of (ls := []) (Below.refl _ _)) he (by simp)) (fun k hk => by simp; omega) ha hb hc hok hu).mono fun _ _ h => h.relab he
end Go.Proofs.Ytijciojipcgiaaa
