/- What two runs told, compared; two sizes. -/
import Derived.Test.YtijciojipcgiaaaRows
import Derived.Test.YtijciojipcgiaaaWkRunE
import Derived.Test.YtijciojipcgiaaaWkPicks
import Derived.Test.YtijciojipcgiaaaWkArgs
import Derived.Test.YtijciojipcgiaaaIrSizes
import Derived.Test.YtijciojipcgiaaaIrBoth
import Derived.Test.YtijciojipcgiaaaWkBack
import Derived.LoopTactic
import Derived.LoopN
import Derived.WalkKit
import Derived.WalkSpells
import Derived.WalkLawsBesides
import Derived.Lib.Hide
import Derived.OrdersHeld
import Derived.Deep.RegionHeld
import Derived.Deep.DrawnRows
import Derived.RegionTactic
import Derived.Deep.RegionHeld3
import Derived.IntWalk
namespace Go.Proofs.Ytijciojipcgiaaa
open Go.RowKit
set_option maxRecDepth 100000
attribute [local go_sem ↓] bld_eq bls_eq
set_option maxHeartbeats 4000000 in
theorem beyond2_any (b : Nat) (x y : Int) (T : TypeId) (fr : Nat × Nat) (w : World) (h : w.heap[b]? = some (.cells #[.int .i64 x, .int .i64 y] T fr)) :
    Calls Try.prog 5 #[.slice (some ⟨b, 0, none⟩) 2 2] w fun e w' => (e = .returned (.bool true) ∨ (e = .returned (.bool false) ∧ (0 ≤ x ∧ x ≤ 262144) ∧ (0 ≤ y ∧ y ≤ 262144))) ∧ w = w' := by
  obtain ⟨c0, c1⟩ := own2 h
  have hb := heap_lt h
  clear h
  have hor : x < 0 ∨ (¬ x < 0 ∧ 262144 < x) ∨ (0 ≤ x ∧ x ≤ 262144 ∧ y < 0) ∨ (0 ≤ x ∧ x ≤ 262144 ∧ ¬ y < 0 ∧ 262144 < y) ∨ (0 ≤ x ∧ x ≤ 262144 ∧ 0 ≤ y ∧ y ≤ 262144 ∧ 262144 < x + y) ∨ (0 ≤ x ∧ x ≤ 262144 ∧ 0 ≤ y ∧ y ≤ 262144 ∧ x + y ≤ 262144) := by omega
  rcases hor with h1 | ⟨h1, h2⟩ | ⟨h1, h2, h3⟩ | ⟨h1, h2, h3, h4⟩ | ⟨h1, h2, h3, h4, h5⟩ | ⟨h1, h2, h3, h4, h5⟩
  all_goals
    try have hx1 : ¬ x < 0 := by omega
    try have hx2 : ¬ 262144 < x := by omega
    try have hy1 : ¬ y < 0 := by omega
    try have hy2 : ¬ 262144 < y := by omega
    go_enter Try.func5, Try.ntmps5
    go_wp2_with fail
    refine wp_loop_rounds 3 ?_
    rw [rounds_succ]
    go_wp2_with fail
    repeat (rw [rounds_succ]; go_wp2_with fail)
    go_ret
    first | exact ⟨.inl rfl, rfl⟩ | exact ⟨.inr ⟨rfl, by omega, by omega⟩, rfl⟩
set_option maxHeartbeats 4000000 in
theorem sameSeen_any (l : List Int) (qa qb : Option Addr) (ca cb : Nat) (f : Int) (w : World) (h1 : Rd w (.slice qa l.length ca) l) (h2 : Rd w (.slice qb l.length cb) l) :
    Calls Try.prog 21 #[.agg #[.slice qa l.length ca, .int .u8 f], .agg #[.slice qb l.length cb, .int .u8 f]] w fun e w' => e = .returned (.bool true) ∧ Below w.heap.size w w' := by
  obtain ⟨N, hN⟩ : ∃ N, N = l.length := ⟨_, rfl⟩
  obtain ⟨W2, hW2⟩ : ∃ W2, W2 = (w.alloc (.cells #[.slice qa N ca, .int .u8 f] 38)).alloc (.cells #[.slice qb N cb, .int .u8 f] 38) := ⟨_, rfl⟩
  have z1 : (w.alloc (.cells #[.slice qa N ca, .int .u8 f] 38)).heap.size = w.heap.size + 1 := by simp
  have hb2 : Below w.heap.size w W2 := by rw [hW2]; exact (below_box w _).alloc (by simp) _
  have hX : W2.heap[w.heap.size]? = some (.cells #[.slice qa N ca, .int .u8 f] 38 (0, 0)) := by rw [hW2, Below.heap_alloc _ _ _ (by omega)]; exact (MapKept.heap_alloc _ _).1
  have hY : W2.heap[w.heap.size + 1]? = some (.cells #[.slice qb N cb, .int .u8 f] 38 (0, 0)) := by rw [hW2, ← z1]; exact (MapKept.heap_alloc _ _).1
  have HSW := Lib.hid (sameWides_any l _ _ W2 (h1.below hb2) (h2.below hb2))
  rw [← hN] at HSW ⊢
  obtain ⟨x0, x1⟩ := own2 hX
  obtain ⟨y0, y1⟩ := own2 hY
  rw [hW2] at x0 x1 y0 y1
  have HW2 := Lib.hid hW2
  have HB2 := Lib.hid hb2
  clear h1 h2 hN hW2 hb2 hX hY z1
  go_enter Try.func21, Try.ntmps21
  go_wp2_with fail
  rw [← HW2.out]
  refine HSW.out.mono ?_; rintro e w3 ⟨rfl, hb3⟩
  have HB3 := Lib.hid hb3
  clear hb3 x0 x1 y0 y1
  go_wp2_with fail
  go_ret
  exact ⟨rfl, HB2.out.trans (HB3.out.mono HB2.out.size)⟩
set_option maxHeartbeats 8000000 in
theorem sameSeens_any (Ts : List TS) (sa sb : Value) (w : World) (h1 : SeenAt w sa Ts) (h2 : SeenAt w sb Ts) (hl : Ts.length ≤ 1000000) :
    Calls Try.prog 11 #[sa, sb] w fun e w' => e = .returned (.bool true) ∧ Below w.heap.size w w' := by
  obtain ⟨qa, ca, rfl, hra⟩ := h1.read
  obtain ⟨qb, cb, rfl, hrb⟩ := h2.read
  have HRA := Lib.hid hra
  have HRB := Lib.hid hrb
  obtain ⟨N, hN⟩ : ∃ N, N = Ts.length := ⟨_, rfl⟩
  rw [← hN] at HRA HRB hl ⊢
  have HN := Lib.hid hN
  clear h1 h2 hra hrb hN
  go_enter Try.func11, Try.ntmps11
  go_wp2_with fail
  go_loopw [13] (fun q wr => ∃ k : Nat, k ≤ N ∧ q = .int .i64 (k : Int) ∧ Below w.heap.size w wr) (fun q _ => N - (intOf q).toNat)
  case atStart => exact ⟨0, by omega, rfl, Below.refl _ _⟩
  case round =>
    obtain ⟨k, hkN, rfl, hB⟩ := hrel
    by_cases hlt : k < N
    · obtain ⟨T, hT⟩ : ∃ T, Ts[k]? = some T := ⟨_, List.getElem?_eq_getElem (by rw [← HN.out]; exact hlt)⟩
      obtain ⟨ga, rfl, hga, hra⟩ := HRA.out (by omega)
      obtain ⟨gb, rfl, hgb, hrb⟩ := HRB.out (by omega)
      obtain ⟨tqa, tca, p0, p1, hrd1⟩ := hra k T hT
      obtain ⟨tqb, tcb, r0, r1, hrd2⟩ := hrb k T hT
      have p0 := (hB.cell (p := ⟨ga, k * 2, none⟩) hga).trans p0
      have p1 := (hB.cell (p := ⟨ga, k * 2 + 1, none⟩) hga).trans p1
      have r0 := (hB.cell (p := ⟨gb, k * 2, none⟩) hgb).trans r0
      have r1 := (hB.cell (p := ⟨gb, k * 2 + 1, none⟩) hgb).trans r1
      have HSS := Lib.hid (fun (u : World) (hu : Below wr.heap.size wr u) => sameSeen_any T.told tqa tqb tca tcb T.fin u ((hrd1.below hB).below hu) ((hrd2.below hB).below hu))
      have hsz := hB.size
      have hga2 : ga < wr.heap.size := by omega
      have hgb2 : gb < wr.heap.size := by omega
      obtain ⟨ln, hln⟩ : ∃ n, n = T.told.length := ⟨_, rfl⟩
      obtain ⟨f, hf⟩ : ∃ n, n = T.fin := ⟨_, rfl⟩
      rw [← hln, ← hf] at HSS
      rw [← hln] at p0 r0
      rw [← hf] at p1 r1
      have HB := Lib.hid hB
      clear hT hra hrb hrd1 hrd2 hln hf hB
      go_wp2_with fail
      refine wp_region_held_drew (S := SameOn (fun x => x = ga ∨ x = gb) wr) (by kernel_rfl) (SameOn.drew _ _) (fun hSw => ?_)
      refine wpAnyH_take (i := 0) (oi := { dst := some 16, op := Op.move (Operand.tmp 0), type := 28, pos := "twin.go:763", after := #[], guard := none }) (v := .slice (some ⟨ga, 0, none⟩) N ca) rfl (by kernel_rfl) (by kernel_rfl) (by kernel_rfl) (fun _ _ _ h => h) (Or.inl ⟨by rfl, fun W hW => ?_⟩) hSw ?_
      · first | (go_simp; done) | rfl
      try simp only [Act.put, List.setIfInBounds_toArray, List.set_cons_zero, List.set_cons_succ]
      refine wpAnyH_take (i := 1) (oi := { dst := some 17, op := Op.move (Operand.tmp 5), type := 3, pos := "twin.go:763", after := #[], guard := none }) (v := .int .i64 (k : Int)) rfl (by kernel_rfl) (by kernel_rfl) (by kernel_rfl) (fun _ _ _ h => h) (Or.inl ⟨by rfl, fun W hW => ?_⟩) hSw ?_
      · first | (go_simp; done) | rfl
      try simp only [Act.put, List.setIfInBounds_toArray, List.set_cons_zero, List.set_cons_succ]
      refine wpAnyH_take (i := 2) (oi := { dst := some 18, op := Op.indexAddr 28 (Operand.tmp 16) (Operand.tmp 17), type := 0, pos := "twin.go:763", after := #[{ on := 0, ground := Ground.data }, { on := 1, ground := Ground.data }], guard := none }) (v := .pointer (some ⟨ga, k * 2, none⟩)) rfl (by kernel_rfl) (by kernel_rfl) (by kernel_rfl) (fun _ _ _ h => h) (Or.inl ⟨by rfl, fun W hW => ?_⟩) hSw ?_
      · first | (go_simp; done) | rfl
      try simp only [Act.put, List.setIfInBounds_toArray, List.set_cons_zero, List.set_cons_succ]
      refine wpAnyH_take (i := 3) (oi := { dst := some 19, op := Op.load 38 (Operand.tmp 18), type := 38, pos := "twin.go:763", after := #[{ on := 2, ground := Ground.data }], guard := none }) (v := .agg #[.slice tqa ln tca, .int .u8 f]) rfl (by kernel_rfl) (by kernel_rfl) (by kernel_rfl) (fun _ _ _ h => h) (Or.inl ⟨by rfl, fun W hW => ?_⟩) hSw ?_
      · have p0 := hW.cell (by dsimp only; omega) p0
        have p1 := hW.cell (by dsimp only; omega) p1
        first | (go_simp; done) | rfl
      try simp only [Act.put, List.setIfInBounds_toArray, List.set_cons_zero, List.set_cons_succ]
      refine wpAnyH_take (i := 4) (oi := { dst := some 20, op := Op.move (Operand.tmp 1), type := 28, pos := "twin.go:763", after := #[], guard := none }) (v := .slice (some ⟨gb, 0, none⟩) N cb) rfl (by kernel_rfl) (by kernel_rfl) (by kernel_rfl) (fun _ _ _ h => h) (Or.inl ⟨by rfl, fun W hW => ?_⟩) hSw ?_
      · first | (go_simp; done) | rfl
      try simp only [Act.put, List.setIfInBounds_toArray, List.set_cons_zero, List.set_cons_succ]
      refine wpAnyH_take (i := 5) (oi := { dst := some 21, op := Op.move (Operand.tmp 5), type := 3, pos := "twin.go:763", after := #[], guard := none }) (v := .int .i64 (k : Int)) rfl (by kernel_rfl) (by kernel_rfl) (by kernel_rfl) (fun _ _ _ h => h) (Or.inl ⟨by rfl, fun W hW => ?_⟩) hSw ?_
      · first | (go_simp; done) | rfl
      try simp only [Act.put, List.setIfInBounds_toArray, List.set_cons_zero, List.set_cons_succ]
      refine wpAnyH_take (i := 6) (oi := { dst := some 22, op := Op.indexAddr 28 (Operand.tmp 20) (Operand.tmp 21), type := 0, pos := "twin.go:763", after := #[{ on := 4, ground := Ground.data }, { on := 5, ground := Ground.data }], guard := none }) (v := .pointer (some ⟨gb, k * 2, none⟩)) rfl (by kernel_rfl) (by kernel_rfl) (by kernel_rfl) (fun _ _ _ h => h) (Or.inl ⟨by rfl, fun W hW => ?_⟩) hSw ?_
      · first | (go_simp; done) | rfl
      try simp only [Act.put, List.setIfInBounds_toArray, List.set_cons_zero, List.set_cons_succ]
      refine wpAnyH_take (i := 7) (oi := { dst := some 23, op := Op.load 38 (Operand.tmp 22), type := 38, pos := "twin.go:763", after := #[{ on := 6, ground := Ground.data }], guard := none }) (v := .agg #[.slice tqb ln tcb, .int .u8 f]) rfl (by kernel_rfl) (by kernel_rfl) (by kernel_rfl) (fun _ _ _ h => h) (Or.inl ⟨by rfl, fun W hW => ?_⟩) hSw ?_
      · have r0 := hW.cell (by dsimp only; omega) r0
        have r1 := hW.cell (by dsimp only; omega) r1
        first | (go_simp; done) | rfl
      try simp only [Act.put, List.setIfInBounds_toArray, List.set_cons_zero, List.set_cons_succ]
      refine wpAnyH_ready (rs := [8]) (by kernel_rfl) (by simp) ?_
      refine AllReadyH.cons (o := { dst := some 24, op := Op.call { callee := Callee.value (Operand.func 21), args := #[Operand.tmp 19, Operand.tmp 23], argTypes := #[38, 38] }, type := 4, pos := "twin.go:763", after := #[{ on := 3, ground := Ground.data }, { on := 7, ground := Ground.data }], guard := none }) rfl (fun K hK => ?_) AllReadyH.nil
      rw [if_pos (by rfl)]
      clear hSw
      go_simp
      refine (HSS.out _ (below_drewN' (Below.refl _ _))).mono ?_; rintro e w9 ⟨rfl, hb9⟩
      have hb9' : Below wr.heap.size wr w9 := ⟨hb9.os, hb9.tape, hb9.output, hb9.size, hb9.block⟩
      have HB9 := Lib.hid hb9'
      clear hb9 hb9'
      refine hK.out _ _ (fun x hx => HB9.out.block x (by omega)) (fun hSw => ?_)
      clear hK K
      try simp only [Act.put, List.setIfInBounds_toArray, List.set_cons_zero, List.set_cons_succ]
      refine wpAnyH_take (i := 9) (oi := { dst := some 25, op := Op.unOp UnOp.not 4 (Operand.tmp 24), type := 4, pos := "twin.go:763", after := #[{ on := 8, ground := Ground.data }], guard := none }) (v := .bool false) rfl (by kernel_rfl) (by kernel_rfl) (by kernel_rfl) (fun _ _ _ h => h) (Or.inl ⟨by rfl, fun W hW => ?_⟩) hSw ?_
      · first | (go_simp; done) | rfl
      try simp only [Act.put, List.setIfInBounds_toArray, List.set_cons_zero, List.set_cons_succ]
      refine wpAnyH_done (by kernel_rfl) ?_ _
      clear p0 p1 r0 r1
      go_wp2_with fail
      go_roundw
      case rel => exact ⟨k + 1, hlt, by go_num, HB.out.trans (HB9.out.mono HB.out.size)⟩
      case measure => simp [intOf]; omega
    · have HB := Lib.hid hB
      clear hB
      go_wp2_with fail
      go_ret
      exact ⟨rfl, HB.out⟩
end Go.Proofs.Ytijciojipcgiaaa
