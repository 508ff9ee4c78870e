/- Own loads and stores. -/
import Derived.Test.YtijciojipcgiaaaRows
import Derived.Test.YtijciojipcgiaaaWkMade
import Derived.Test.YtijciojipcgiaaaWkStore
import Derived.Test.YtijciojipcgiaaaIrSizes
import Derived.Test.YtijciojipcgiaaaIrBoth
import Derived.Test.YtijciojipcgiaaaWkBack
import Derived.LoopTactic
import Derived.LoopN
import Derived.WalkKit
import Derived.WalkSpells
import Derived.WalkLawsBesides
import Derived.Lib.Hide
import Derived.OrdersHeld
import Derived.Deep.RegionHeld
import Derived.Deep.DrawnRows
import Derived.RegionTactic
import Derived.Deep.RegionHeld3
import Derived.IntWalk
import Derived.Test.YtijciojipcgiaaaWkMay
import Derived.Test.YtijciojipcgiaaaWkTell
import Derived.Test.YtijciojipcgiaaaWkBegin
namespace Go.Proofs.Ytijciojipcgiaaa
open Go.RowKit
set_option maxRecDepth 100000
attribute [local go_sem ↓] bld_eq bls_eq

/-- What taking down leaves. -/
def OwnE (ow : Nat → Nat) (b j p n : Nat) (g : Gr) (W : WS) (T : TS) (i : In) (v rs us ts ws : Value) (w : World) (e : Ending) (w' : World) : Prop :=
  e = .returned (.tuple #[]) ∧ WAt ow w' b (ownT W T i) n v ∧ TAt ow w' b j p g T rs us ts ws ∧ But ow [1] w w'
set_option maxHeartbeats 8000000 in
theorem own_any (ow : Nat → Nat) (w : World) (b j p n : Nat) (g : Gr) (W : WS) (T : TS) (v rs us ts ws : Value) (k o : Int) (a bb : Nat) (cc x : Int) (h1 : WAt ow w b W n v) (h2 : TAt ow w b j p g T rs us ts ws) (_ha : a < T.regs.length) (hb : bb < T.regs.length) (hc : cc < 0 ∨ cc.toNat < T.regs.length) :
    Calls Try.prog 57 #[.pointer (some ⟨p, 0, none⟩), .agg #[.int .u8 k, .int .u8 o, .int .i64 (a : Int), .int .i64 (bb : Int), .int .i64 cc, .int .i64 x]] w (OwnE ow b j p n g W T ⟨k, o, (a : Int), (bb : Int), cc, x⟩ v rs us ts ws w) := by
  obtain ⟨U, hU⟩ : ∃ U, U = w.alloc (.cells #[.int .u8 k, .int .u8 o, .int .i64 (a : Int), .int .i64 (bb : Int), .int .i64 cc, .int .i64 x] 53) := ⟨_, rfl⟩
  have hBU : Below w.heap.size w U := by rw [hU]; exact below_box w _
  have hzU : U.heap.size = w.heap.size + 1 := by rw [hU]; simp
  have hO : U.heap[w.heap.size]? = some (.cells #[.int .u8 k, .int .u8 o, .int .i64 (a : Int), .int .i64 (bb : Int), .int .i64 cc, .int .i64 x] 53 (0, 0)) := by rw [hU]; exact (MapKept.heap_alloc _ _).1
  have h1U := h1.keeps (But.of (ls := []) hBU) (.refl _ _) (by simp) (by simp)
  have h2U := h2.keeps (But.of (ls := []) hBU) (.refl _ _) (by simp)
  obtain ⟨i0, i1, i2, i3, i4, i5⟩ := own6 hO
  have HME := Lib.hid (met_any ow U b j p n g W T v rs us ts ws k o (a : Int) bb cc hc x h1U h2U hb)
  obtain ⟨i, hi⟩ : ∃ i : In, i = ⟨k, o, (a : Int), (bb : Int), cc, x⟩ := ⟨_, rfl⟩
  rw [← hi] at HME ⊢
  obtain ⟨A, hA⟩ : ∃ A, A = metA T i := ⟨_, rfl⟩
  unfold MetE at HME
  rw [← hA] at HME
  have hown : ownT W T i = if hasW W A = true ∧ A < (T.since : Int) then { W with strange := true } else W := by unfold ownT; rw [← hA]
  have HU := Lib.hid hU
  have H1 := Lib.hid h1U
  have H2 := Lib.hid h2U
  have HB := Lib.hid hBU
  have hlp : p < w.heap.size := heap_lt h2.box
  have hlb : b < w.heap.size := heap_lt h1.box
  have d0 := h2U.cells.1
  have d8 := h2U.cells.2.2.2.2.2.2.1
  have e2 := h1U.cells.2.2
  have fb := Lib.frozen_of_heap h1U.box 2
  have hmk : ∀ w2, Below U.heap.size U w2 → WAt ow w2 b W n v ∧ TAt ow w2 b j p g T rs us ts ws := fun w2 hb2 => ⟨h1U.keeps (But.of (ls := []) hb2) (.refl _ _) (by simp) (by simp), h2U.keeps (But.of (ls := []) hb2) (.refl _ _) (by simp)⟩
  have HMK := Lib.hid hmk
  obtain ⟨S, hS⟩ : ∃ S, S = T.since := ⟨_, rfl⟩
  rw [← hS] at d8 hown
  clear h1 h2 h1U h2U hBU hO hU hb hc hi hmk hA hS
  by_cases hh : hasW W A = true
  · rw [hh] at HME hown
    by_cases hA2 : A < (S : Int)
    · rw [if_pos ⟨rfl, hA2⟩] at hown
      have HOW := Lib.hid hown
      clear hown
      go_enter Try.func57, Try.ntmps57
      go_wp2_with fail
      rw [← HU.out]
      refine HME.out.mono ?_; rintro e w2 ⟨rfl, hb2⟩
      have hz2 := hb2.size
      have HB2 := Lib.hid hb2
      have d0 := (hb2.cell (p := ⟨p, 0, none⟩) (by dsimp only; omega)).trans d0
      have d8 := (hb2.cell (p := ⟨p, 8, none⟩) (by dsimp only; omega)).trans d8
      have e2 := (hb2.cell (p := ⟨b, 2, none⟩) (by dsimp only; omega)).trans e2
      have fb : w2.frozen? ⟨b, 2, none⟩ = false := by rw [← fb]; simp only [World.frozen?, hb2.block b (by omega)]
      clear hb2
      go_wp2_with fail
      go_end0
      obtain ⟨g1, g2⟩ := HMK.out _ HB2.out
      have hs1 : But ow [1] w2 (w2.setCell ⟨b, 2, none⟩ (.bool true)) := but_set _ _ g1.lab
      refine ⟨rfl, ?_, g2.keeps hs1 (.refl _ _) (by simp; omega), but_then (But.of (HB.out.trans (HB2.out.mono (by omega)))) hs1⟩
      rw [HOW.out]
      exact ⟨set1_box 2 _ g1.box rfl, owns_but g1.row hs1 g1.labr (by simp), g1.lab, g1.labr, g1.big, g1.many⟩
    · rw [if_neg (fun q => hA2 q.2)] at hown
      have HOW := Lib.hid hown
      clear hown
      go_enter Try.func57, Try.ntmps57
      go_wp2_with fail
      rw [← HU.out]
      refine HME.out.mono ?_; rintro e w2 ⟨rfl, hb2⟩
      have hz2 := hb2.size
      have HB2 := Lib.hid hb2
      have d0 := (hb2.cell (p := ⟨p, 0, none⟩) (by dsimp only; omega)).trans d0
      have d8 := (hb2.cell (p := ⟨p, 8, none⟩) (by dsimp only; omega)).trans d8
      have e2 := (hb2.cell (p := ⟨b, 2, none⟩) (by dsimp only; omega)).trans e2
      have fb : w2.frozen? ⟨b, 2, none⟩ = false := by rw [← fb]; simp only [World.frozen?, hb2.block b (by omega)]
      clear hb2
      go_wp2_with fail
      go_end0
      obtain ⟨g1, g2⟩ := HMK.out _ HB2.out
      refine ⟨rfl, ?_, g2, But.of (HB.out.trans (HB2.out.mono (by omega)))⟩
      rw [HOW.out]
      exact g1
  · have hh2 : hasW W A = false := by simpa using hh
    rw [hh2] at HME hown
    rw [if_neg (fun q => by cases q.1)] at hown
    have HOW := Lib.hid hown
    clear hown
    go_enter Try.func57, Try.ntmps57
    go_wp2_with fail
    rw [← HU.out]
    refine HME.out.mono ?_; rintro e w2 ⟨rfl, hb2⟩
    have hz2 := hb2.size
    have HB2 := Lib.hid hb2
    have d0 := (hb2.cell (p := ⟨p, 0, none⟩) (by dsimp only; omega)).trans d0
    have d8 := (hb2.cell (p := ⟨p, 8, none⟩) (by dsimp only; omega)).trans d8
    have e2 := (hb2.cell (p := ⟨b, 2, none⟩) (by dsimp only; omega)).trans e2
    have fb : w2.frozen? ⟨b, 2, none⟩ = false := by rw [← fb]; simp only [World.frozen?, hb2.block b (by omega)]
    clear hb2
    go_wp2_with fail
    go_end0
    obtain ⟨g1, g2⟩ := HMK.out _ HB2.out
    refine ⟨rfl, ?_, g2, But.of (HB.out.trans (HB2.out.mono (by omega)))⟩
    rw [HOW.out]
    exact g1
set_option maxHeartbeats 8000000 in
theorem ownLoad_z (ow : Nat → Nat) (w : World) (b j p n : Nat) (g : Gr) (W : WS) (T : TS) (v rs us ts ws : Value) (k o : Int) (a bb : Nat) (cc x : Int) (h1 : WAt ow w b W n v) (h2 : TAt ow w b j p g T rs us ts ws) (ha : a < T.regs.length) (hb : bb < T.regs.length) (hc : cc < 0 ∨ cc.toNat < T.regs.length) (hok : UOk T.undo T.since W.words.length) (hu : T.undo.length ≤ 1048576) (hl0 : ∀ k, w.heap.size ≤ k → ow k = 0) :
    Calls Try.prog 37 #[.pointer (some ⟨p, 0, none⟩), .agg #[.int .u8 k, .int .u8 o, .int .i64 (a : Int), .int .i64 (bb : Int), .int .i64 cc, .int .i64 x]] w (StepE ow b j p g n (loadT (ownT W T ⟨k, o, (a : Int), (bb : Int), cc, x⟩) T ⟨k, o, (a : Int), (bb : Int), cc, x⟩) w) := by
  obtain ⟨U, hU⟩ : ∃ U, U = w.alloc (.cells #[.int .u8 k, .int .u8 o, .int .i64 (a : Int), .int .i64 (bb : Int), .int .i64 cc, .int .i64 x] 53) := ⟨_, rfl⟩
  have hBU : Below w.heap.size w U := by rw [hU]; exact below_box w _
  have hzU : U.heap.size = w.heap.size + 1 := by rw [hU]; simp
  have hO : U.heap[w.heap.size]? = some (.cells #[.int .u8 k, .int .u8 o, .int .i64 (a : Int), .int .i64 (bb : Int), .int .i64 cc, .int .i64 x] 53 (0, 0)) := by rw [hU]; exact (MapKept.heap_alloc _ _).1
  have h1U := h1.keeps (But.of (ls := []) hBU) (.refl _ _) (by simp) (by simp)
  have h2U := h2.keeps (But.of (ls := []) hBU) (.refl _ _) (by simp)
  obtain ⟨i0, i1, i2, i3, i4, i5⟩ := own6 hO
  have HOWN := Lib.hid (own_any ow U b j p n g W T v rs us ts ws k o a bb cc x h1U h2U ha hb hc)
  have hwl : (ownT W T ⟨k, o, (a : Int), (bb : Int), cc, x⟩).words = W.words := by unfold ownT; split <;> rfl
  obtain ⟨W', hW'⟩ : ∃ W', W' = ownT W T ⟨k, o, (a : Int), (bb : Int), cc, x⟩ := ⟨_, rfl⟩
  rw [← hW'] at hwl ⊢
  unfold OwnE at HOWN
  rw [← hW'] at HOWN
  rw [← hwl] at hok
  have HC := Lib.hid (fun (u : World) (h1 : WAt ow u b W' n v) (h2 : TAt ow u b j p g T rs us ts ws) => load_any ow u b j p n g W' T v rs us ts ws k o a bb cc x h1 h2 ha hb hc hok hu)
  have HU := Lib.hid hU
  have HB := Lib.hid hBU
  have hlw : ow w.heap.size ≠ 1 := by rw [hl0 _ (Nat.le_refl _)]; omega
  clear h1 h2 h1U h2U hBU hO hU ha hb hc hok hu hwl hW' hl0
  go_enter Try.func37, Try.ntmps37
  go_wp2_with fail
  rw [← HU.out]
  refine HOWN.out.mono ?_; rintro e w2 ⟨rfl, g1, g2, g3⟩
  have hs : w2.heap[w.heap.size]? = U.heap[w.heap.size]? := g3.block _ (by omega) (by simpa using hlw)
  have mv : ∀ off u, U.cell? ⟨w.heap.size, off, none⟩ = some u → w2.cell? ⟨w.heap.size, off, none⟩ = some u := fun off u h => by rw [← h]; simp only [World.cell?, hs]
  have i0 := mv _ _ i0
  have i1 := mv _ _ i1
  have i2 := mv _ _ i2
  have i3 := mv _ _ i3
  have i4 := mv _ _ i4
  have i5 := mv _ _ i5
  have G1 := Lib.hid g1
  have G2 := Lib.hid g2
  have HK := Lib.hid ((Kp.of (j := j) HB.out).trans (.refl _ _) (g3.kp (by intro l hl; simp at hl; unfold Mine; omega)))
  clear g1 g2 g3 hs mv
  go_wp2_with fail
  refine (HC.out w2 G1.out G2.out).mono ?_; rintro e w3 hE
  obtain ⟨r, hr⟩ := (show ∃ r, e = .returned (.bool r) from ⟨_, hE.1⟩)
  subst hr
  have HE := Lib.hid hE
  clear hE
  go_wp2_with fail
  go_ret
  exact HE.out.after HK.out (.refl _ _)
theorem ownLoad_any (ow : Nat → Nat) (w : World) (b j p n : Nat) (g : Gr) (W : WS) (T : TS) (v rs us ts ws : Value) (k o : Int) (a bb : Nat) (cc x : Int) (h1 : WAt ow w b W n v) (h2 : TAt ow w b j p g T rs us ts ws) (ha : a < T.regs.length) (hb : bb < T.regs.length) (hc : cc < 0 ∨ cc.toNat < T.regs.length) (hok : UOk T.undo T.since W.words.length) (hu : T.undo.length ≤ 1048576) :
    Calls Try.prog 37 #[.pointer (some ⟨p, 0, none⟩), .agg #[.int .u8 k, .int .u8 o, .int .i64 (a : Int), .int .i64 (bb : Int), .int .i64 cc, .int .i64 x]] w (StepE ow b j p g n (loadT (ownT W T ⟨k, o, (a : Int), (bb : Int), cc, x⟩) T ⟨k, o, (a : Int), (bb : Int), cc, x⟩) w) :=
  (ownLoad_z (low ow w.heap.size) w b j p n g W T v rs us ts ws k o a bb cc x h1.low h2.low ha hb hc hok hu (fun _k hk => low_new _ _ _ hk)).mono fun _ _ h => h.relab (low_ext _ _)
set_option maxHeartbeats 8000000 in
theorem ownStore_z (ow : Nat → Nat) (w : World) (b j p n : Nat) (g : Gr) (W : WS) (T : TS) (v rs us ts ws : Value) (k o : Int) (a bb : Nat) (cc x : Int) (h1 : WAt ow w b W n v) (h2 : TAt ow w b j p g T rs us ts ws) (ha : a < T.regs.length) (hb : bb < T.regs.length) (hc : cc < 0 ∨ cc.toNat < T.regs.length) (hok : UOk T.undo T.since W.words.length) (hu : T.undo.length ≤ 1048576) (hl0 : ∀ k, w.heap.size ≤ k → ow k = 0) :
    Calls Try.prog 38 #[.pointer (some ⟨p, 0, none⟩), .agg #[.int .u8 k, .int .u8 o, .int .i64 (a : Int), .int .i64 (bb : Int), .int .i64 cc, .int .i64 x]] w (StepE ow b j p g n (storeT (ownT W T ⟨k, o, (a : Int), (bb : Int), cc, x⟩) T ⟨k, o, (a : Int), (bb : Int), cc, x⟩) w) := by
  obtain ⟨U, hU⟩ : ∃ U, U = w.alloc (.cells #[.int .u8 k, .int .u8 o, .int .i64 (a : Int), .int .i64 (bb : Int), .int .i64 cc, .int .i64 x] 53) := ⟨_, rfl⟩
  have hBU : Below w.heap.size w U := by rw [hU]; exact below_box w _
  have hzU : U.heap.size = w.heap.size + 1 := by rw [hU]; simp
  have hO : U.heap[w.heap.size]? = some (.cells #[.int .u8 k, .int .u8 o, .int .i64 (a : Int), .int .i64 (bb : Int), .int .i64 cc, .int .i64 x] 53 (0, 0)) := by rw [hU]; exact (MapKept.heap_alloc _ _).1
  have h1U := h1.keeps (But.of (ls := []) hBU) (.refl _ _) (by simp) (by simp)
  have h2U := h2.keeps (But.of (ls := []) hBU) (.refl _ _) (by simp)
  obtain ⟨i0, i1, i2, i3, i4, i5⟩ := own6 hO
  have HOWN := Lib.hid (own_any ow U b j p n g W T v rs us ts ws k o a bb cc x h1U h2U ha hb hc)
  have hwl : (ownT W T ⟨k, o, (a : Int), (bb : Int), cc, x⟩).words = W.words := by unfold ownT; split <;> rfl
  obtain ⟨W', hW'⟩ : ∃ W', W' = ownT W T ⟨k, o, (a : Int), (bb : Int), cc, x⟩ := ⟨_, rfl⟩
  rw [← hW'] at hwl ⊢
  unfold OwnE at HOWN
  rw [← hW'] at HOWN
  rw [← hwl] at hok
  have HC := Lib.hid (fun (u : World) (h1 : WAt ow u b W' n v) (h2 : TAt ow u b j p g T rs us ts ws) => store_any ow u b j p n g W' T v rs us ts ws k o a bb cc x h1 h2 ha hb hc hok hu)
  have HU := Lib.hid hU
  have HB := Lib.hid hBU
  have hlw : ow w.heap.size ≠ 1 := by rw [hl0 _ (Nat.le_refl _)]; omega
  clear h1 h2 h1U h2U hBU hO hU ha hb hc hok hu hwl hW' hl0
  go_enter Try.func38, Try.ntmps38
  go_wp2_with fail
  rw [← HU.out]
  refine HOWN.out.mono ?_; rintro e w2 ⟨rfl, g1, g2, g3⟩
  have hs : w2.heap[w.heap.size]? = U.heap[w.heap.size]? := g3.block _ (by omega) (by simpa using hlw)
  have mv : ∀ off u, U.cell? ⟨w.heap.size, off, none⟩ = some u → w2.cell? ⟨w.heap.size, off, none⟩ = some u := fun off u h => by rw [← h]; simp only [World.cell?, hs]
  have i0 := mv _ _ i0
  have i1 := mv _ _ i1
  have i2 := mv _ _ i2
  have i3 := mv _ _ i3
  have i4 := mv _ _ i4
  have i5 := mv _ _ i5
  have G1 := Lib.hid g1
  have G2 := Lib.hid g2
  have HK := Lib.hid ((Kp.of (j := j) HB.out).trans (.refl _ _) (g3.kp (by intro l hl; simp at hl; unfold Mine; omega)))
  clear g1 g2 g3 hs mv
  go_wp2_with fail
  refine (HC.out w2 G1.out G2.out).mono ?_; rintro e w3 hE
  obtain ⟨r, hr⟩ := (show ∃ r, e = .returned (.bool r) from ⟨_, hE.1⟩)
  subst hr
  have HE := Lib.hid hE
  clear hE
  go_wp2_with fail
  go_ret
  exact HE.out.after HK.out (.refl _ _)
theorem ownStore_any (ow : Nat → Nat) (w : World) (b j p n : Nat) (g : Gr) (W : WS) (T : TS) (v rs us ts ws : Value) (k o : Int) (a bb : Nat) (cc x : Int) (h1 : WAt ow w b W n v) (h2 : TAt ow w b j p g T rs us ts ws) (ha : a < T.regs.length) (hb : bb < T.regs.length) (hc : cc < 0 ∨ cc.toNat < T.regs.length) (hok : UOk T.undo T.since W.words.length) (hu : T.undo.length ≤ 1048576) :
    Calls Try.prog 38 #[.pointer (some ⟨p, 0, none⟩), .agg #[.int .u8 k, .int .u8 o, .int .i64 (a : Int), .int .i64 (bb : Int), .int .i64 cc, .int .i64 x]] w (StepE ow b j p g n (storeT (ownT W T ⟨k, o, (a : Int), (bb : Int), cc, x⟩) T ⟨k, o, (a : Int), (bb : Int), cc, x⟩) w) :=
  (ownStore_z (low ow w.heap.size) w b j p n g W T v rs us ts ws k o a bb cc x h1.low h2.low ha hb hc hok hu (fun _k hk => low_new _ _ _ hk)).mono fun _ _ h => h.relab (low_ext _ _)
end Go.Proofs.Ytijciojipcgiaaa
namespace Go.Proofs.Ytijciojipcgiaaa
open Go.RowKit
set_option maxRecDepth 100000

/-- A register that there is. -/
def RegN (R : Nat) (x : Int) : Prop := 0 ≤ x ∧ x < (R : Int)
/-- What an instruction of a graph that may be names is there. -/
structure Fits (R : Nat) (i : In) : Prop where
  k : 1 ≤ i.k ∧ i.k ≤ 14
  a : i.k = 1 ∨ i.k = 2 ∨ i.k = 3 ∨ i.k = 6 ∨ i.k = 7 ∨ i.k = 8 ∨ i.k = 9 ∨ i.k = 10 ∨ i.k = 11 → RegN R i.a
  b : i.k = 2 ∨ i.k = 3 ∨ i.k = 4 ∨ i.k = 5 ∨ i.k = 8 ∨ i.k = 9 ∨ i.k = 10 ∨ i.k = 11 ∨ i.k = 12 → RegN R i.b
  c : i.k = 3 → RegN R i.c
  m : i.k = 8 ∨ i.k = 9 ∨ i.k = 10 ∨ i.k = 11 → i.c < 0 ∨ RegN R i.c
  n : i.k = 7 → 0 ≤ i.n ∧ i.n ≤ 64
/-- What a thread's next deed leans on. -/
structure Safe (W : WS) (T : TS) : Prop where
  un : UOk T.undo T.since W.words.length
  und : T.undo.length ≤ 1048576
  told : T.told.length ≤ 1048576
  wait : T.waiting.length ≤ 1048576
theorem deed_any (b j p n : Nat) (g : Gr) (W : WS) (T : TS) (i : In) (hi : Fits T.regs.length i) (hs : Safe W T) :
    ∃ F, deedsL[i.k.toNat]? = some (fnV F) ∧ (∀ args w, (callFunc F args).run Try.prog w = .ok (.enter F args) w) ∧
      ∀ (ow : Nat → Nat) (w : World) (v rs us ts ws : Value), WAt ow w b W n v → TAt ow w b j p g T rs us ts ws → Calls Try.prog F #[.pointer (some ⟨p, 0, none⟩), i.val] w (StepE ow b j p g n (deedT W T i) w) := by
  obtain ⟨k, o, a, bb, cc, x⟩ := i
  have hk := hi.k
  have hA := hi.a
  have hB := hi.b
  have hC := hi.c
  have hM := hi.m
  have hN := hi.n
  dsimp only at hk hA hB hC hM hN
  have nat : ∀ {y : Int}, RegN T.regs.length y → ∃ m : Nat, y = (m : Int) ∧ m < T.regs.length := fun {y} h => ⟨y.toNat, by unfold RegN at h; omega, by unfold RegN at h; omega⟩
  have met : cc < 0 ∨ RegN T.regs.length cc → cc < 0 ∨ cc.toNat < T.regs.length := fun h => h.elim .inl (fun q => .inr (by unfold RegN at q; omega))
  have h14 : k = 1 ∨ k = 2 ∨ k = 3 ∨ k = 4 ∨ k = 5 ∨ k = 6 ∨ k = 7 ∨ k = 8 ∨ k = 9 ∨ k = 10 ∨ k = 11 ∨ k = 12 ∨ k = 13 ∨ k = 14 := by omega
  rcases h14 with rfl | rfl | rfl | rfl | rfl | rfl | rfl | rfl | rfl | rfl | rfl | rfl | rfl | rfl
  · obtain ⟨a, rfl, ha⟩ := nat (hA (by omega))
    exact ⟨29, rfl, enters_of Try.func29 (by kernel_rfl) rfl, fun ow w v rs us ts ws h1 h2 => constant_any ow w b j p n g W T v rs us ts ws 1 o a bb cc x h1 h2 ha⟩
  · obtain ⟨a, rfl, ha⟩ := nat (hA (by omega))
    obtain ⟨bb, rfl, hb⟩ := nat (hB (by omega))
    exact ⟨30, rfl, enters_of Try.func30 (by kernel_rfl) rfl, fun ow w v rs us ts ws h1 h2 => move_any ow w b j p n g W T v rs us ts ws 2 o a bb cc x h1 h2 ha hb⟩
  · obtain ⟨a, rfl, ha⟩ := nat (hA (by omega))
    obtain ⟨bb, rfl, hb⟩ := nat (hB (by omega))
    obtain ⟨cc, rfl, hc⟩ := nat (hC (by omega))
    exact ⟨31, rfl, enters_of Try.func31 (by kernel_rfl) rfl, fun ow w v rs us ts ws h1 h2 => wcalc_any ow w b j p n g W T v rs us ts ws 3 o a bb cc x h1 h2 ha hb hc hs.un hs.und⟩
  · obtain ⟨bb, rfl, hb⟩ := nat (hB (by omega))
    exact ⟨32, rfl, enters_of Try.func32 (by kernel_rfl) rfl, fun ow w v rs us ts ws h1 h2 => notNil_any ow w b j p n g W T v rs us ts ws 4 o a bb cc x h1 h2 hb hs.un hs.und⟩
  · obtain ⟨bb, rfl, hb⟩ := nat (hB (by omega))
    exact ⟨33, rfl, enters_of Try.func33 (by kernel_rfl) rfl, fun ow w v rs us ts ws h1 h2 => index_any ow w b j p n g W T v rs us ts ws 5 o a bb cc x h1 h2 hb hs.un hs.und⟩
  · obtain ⟨a, rfl, ha⟩ := nat (hA (by omega))
    exact ⟨29, rfl, enters_of Try.func29 (by kernel_rfl) rfl, fun ow w v rs us ts ws h1 h2 => constant_any ow w b j p n g W T v rs us ts ws 6 o a bb cc x h1 h2 ha⟩
  · obtain ⟨a, rfl, ha⟩ := nat (hA (by omega))
    obtain ⟨m, rfl, hm⟩ : ∃ m : Nat, x = (m : Int) ∧ m ≤ 64 := ⟨x.toNat, by have := hN rfl; omega, by have := hN rfl; omega⟩
    exact ⟨34, rfl, enters_of Try.func34 (by kernel_rfl) rfl, fun ow w v rs us ts ws h1 h2 => made_any ow w b j p n g W T v rs us ts ws 7 o a m bb cc h1 h2 ha hm hs.un hs.und⟩
  · obtain ⟨a, rfl, ha⟩ := nat (hA (by omega))
    obtain ⟨bb, rfl, hb⟩ := nat (hB (by omega))
    exact ⟨35, rfl, enters_of Try.func35 (by kernel_rfl) rfl, fun ow w v rs us ts ws h1 h2 => load_any ow w b j p n g W T v rs us ts ws 8 o a bb cc x h1 h2 ha hb (met (hM (by omega))) hs.un hs.und⟩
  · obtain ⟨a, rfl, ha⟩ := nat (hA (by omega))
    obtain ⟨bb, rfl, hb⟩ := nat (hB (by omega))
    exact ⟨36, rfl, enters_of Try.func36 (by kernel_rfl) rfl, fun ow w v rs us ts ws h1 h2 => store_any ow w b j p n g W T v rs us ts ws 9 o a bb cc x h1 h2 ha hb (met (hM (by omega))) hs.un hs.und⟩
  · obtain ⟨a, rfl, ha⟩ := nat (hA (by omega))
    obtain ⟨bb, rfl, hb⟩ := nat (hB (by omega))
    exact ⟨37, rfl, enters_of Try.func37 (by kernel_rfl) rfl, fun ow w v rs us ts ws h1 h2 => ownLoad_any ow w b j p n g W T v rs us ts ws 10 o a bb cc x h1 h2 ha hb (met (hM (by omega))) hs.un hs.und⟩
  · obtain ⟨a, rfl, ha⟩ := nat (hA (by omega))
    obtain ⟨bb, rfl, hb⟩ := nat (hB (by omega))
    exact ⟨38, rfl, enters_of Try.func38 (by kernel_rfl) rfl, fun ow w v rs us ts ws h1 h2 => ownStore_any ow w b j p n g W T v rs us ts ws 11 o a bb cc x h1 h2 ha hb (met (hM (by omega))) hs.un hs.und⟩
  · obtain ⟨bb, rfl, hb⟩ := nat (hB (by omega))
    refine ⟨39, rfl, enters_of Try.func39 (by kernel_rfl) rfl, fun ow w v rs us ts ws h1 h2 => ?_⟩
    by_cases hin : T.inside = true
    · have hd : deedT W T ⟨12, o, a, (bb : Int), cc, x⟩ = (W, { T with waiting := T.waiting ++ [T.reg (bb : Int)] }, false) := by simp [deedT, hin]
      rw [hd]
      exact print_in_any ow w b j p n g W T v rs us ts ws 12 o a bb cc x h1 h2 hb hin hs.wait
    · have hin2 : T.inside = false := by simpa using hin
      have hd : deedT W T ⟨12, o, a, (bb : Int), cc, x⟩ = (W, { T with told := T.told ++ [T.reg (bb : Int)] }, true) := by simp [deedT, hin2]
      rw [hd]
      exact print_out_any ow w b j p n g W T v rs us ts ws 12 o a bb cc x h1 h2 hb hin2 hs.told
  · exact ⟨40, rfl, enters_of Try.func40 (by kernel_rfl) rfl, fun ow w v rs us ts ws h1 h2 => begin_any ow w b j p n g W T v rs us ts ws 13 o a bb cc x h1 h2 hs.und⟩
  · exact ⟨41, rfl, enters_of Try.func41 (by kernel_rfl) rfl, fun ow w v rs us ts ws h1 h2 => done_any ow w b j p n g W T v rs us ts ws 14 o a bb cc x h1 h2⟩
end Go.Proofs.Ytijciojipcgiaaa
