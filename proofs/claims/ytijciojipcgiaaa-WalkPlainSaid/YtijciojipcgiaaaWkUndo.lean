/- What takes back one thing that a block has done. -/
import Derived.Test.YtijciojipcgiaaaRows
import Derived.Test.YtijciojipcgiaaaWkBack
import Derived.Test.YtijciojipcgiaaaIrSizes
import Derived.Test.YtijciojipcgiaaaIrBoth
import Derived.LoopTactic
import Derived.LoopN
import Derived.WalkKit
import Derived.WalkSpells
import Derived.WalkLawsBesides
import Derived.Lib.Hide
import Derived.OrdersHeld
import Derived.Deep.RegionHeld
import Derived.Deep.DrawnRows
import Derived.RegionTactic
import Derived.Deep.RegionHeld3
import Derived.IntWalk
namespace Go.Proofs.Ytijciojipcgiaaa
open Go.RowKit
set_option maxRecDepth 100000
attribute [local go_sem ↓] bld_eq bls_eq

set_option maxHeartbeats 8000000 in
theorem store1_any (U : World) (b p wg N cap c7 c2 c5 a : Nat) (x y : Int) (h7 : U.cell? ⟨c7, 0, none⟩ = some (.int .i64 x)) (h2 : U.cell? ⟨c2, 0, none⟩ = some (.pointer (some ⟨p, 0, none⟩))) (h5 : U.cell? ⟨c5, 0, none⟩ = some (.int .i64 (a : Int)))
    (d0 : U.cell? ⟨p, 0, none⟩ = some (.pointer (some ⟨b, 0, none⟩))) (e0 : U.cell? ⟨b, 0, none⟩ = some (.slice (some ⟨wg, 0, none⟩) N cap)) (ha : a < N) (_hN : N ≤ 65537) (s0 : U.cell? ⟨wg, a, none⟩ = some (.int .i64 y)) (f0 : U.frozen? ⟨wg, a, none⟩ = false)
    (hl7 : c7 < U.heap.size) (hl2 : c2 < U.heap.size) (hl5 : c5 < U.heap.size) (hlp : p < U.heap.size) (hlb : b < U.heap.size) :
    Calls Try.prog 56 #[.pointer (some ⟨c7, 0, none⟩), .pointer (some ⟨c2, 0, none⟩), .pointer (some ⟨c5, 0, none⟩)] U fun e w' => e = .returned (.tuple #[]) ∧ w' = (U.setCell ⟨wg, a, none⟩ (.int .i64 x)).drew := by
  go_enter Try.func56, Try.ntmps56
  go_wp2_with fail
  refine wp_region_late (S := SameTo (U.heap.size) U) (fun j => decide (9 ≤ j)) (by kernel_rfl) (SameTo.drew _ _) (fun hSw => ?_)
  refine wpAnyL_take (i := 0) (v := .pointer (some ⟨p, 0, none⟩)) rfl (by kernel_rfl) (by kernel_rfl) (by kernel_rfl) rfl (by kernel_rfl) (fun _ _ _ h => h) (Or.inl ⟨by rfl, fun W hW => ?_⟩) hSw ?_
  · have h2 := hW.cell (by dsimp only; omega) h2
    first | (go_simp; done) | rfl
  try simp only [Act.put, List.setIfInBounds_toArray]
  refine wpAnyL_take (i := 1) (v := .pointer (some ⟨p, 0, none⟩)) rfl (by kernel_rfl) (by kernel_rfl) (by kernel_rfl) rfl (by kernel_rfl) (fun _ _ _ h => h) (Or.inl ⟨by rfl, fun W hW => ?_⟩) hSw ?_
  · first | (go_simp; done) | rfl
  try simp only [Act.put]
  refine wpAnyL_take (i := 2) (v := .pointer (some ⟨p, 0, none⟩)) rfl (by kernel_rfl) (by kernel_rfl) (by kernel_rfl) rfl (by kernel_rfl) (fun _ _ _ h => h) (Or.inl ⟨by rfl, fun W hW => ?_⟩) hSw ?_
  · first | (go_simp; done) | rfl
  try simp only [Act.put]
  refine wpAnyL_take (i := 3) (v := .pointer (some ⟨b, 0, none⟩)) rfl (by kernel_rfl) (by kernel_rfl) (by kernel_rfl) rfl (by kernel_rfl) (fun _ _ _ h => h) (Or.inl ⟨by rfl, fun W hW => ?_⟩) hSw ?_
  · have d0 := hW.cell (by dsimp only; omega) d0
    first | (go_simp; done) | rfl
  try simp only [Act.put]
  refine wpAnyL_take (i := 4) (v := .pointer (some ⟨b, 0, none⟩)) rfl (by kernel_rfl) (by kernel_rfl) (by kernel_rfl) rfl (by kernel_rfl) (fun _ _ _ h => h) (Or.inl ⟨by rfl, fun W hW => ?_⟩) hSw ?_
  · first | (go_simp; done) | rfl
  try simp only [Act.put]
  refine wpAnyL_take (i := 5) (v := .pointer (some ⟨b, 0, none⟩)) rfl (by kernel_rfl) (by kernel_rfl) (by kernel_rfl) rfl (by kernel_rfl) (fun _ _ _ h => h) (Or.inl ⟨by rfl, fun W hW => ?_⟩) hSw ?_
  · first | (go_simp; done) | rfl
  try simp only [Act.put]
  refine wpAnyL_take (i := 6) (v := .slice (some ⟨wg, 0, none⟩) N cap) rfl (by kernel_rfl) (by kernel_rfl) (by kernel_rfl) rfl (by kernel_rfl) (fun _ _ _ h => h) (Or.inl ⟨by rfl, fun W hW => ?_⟩) hSw ?_
  · have e0 := hW.cell (by dsimp only; omega) e0
    first | (go_simp; done) | rfl
  try simp only [Act.put]
  refine wpAnyL_take (i := 7) (v := .int .i64 (a : Int)) rfl (by kernel_rfl) (by kernel_rfl) (by kernel_rfl) rfl (by kernel_rfl) (fun _ _ _ h => h) (Or.inl ⟨by rfl, fun W hW => ?_⟩) hSw ?_
  · have h5 := hW.cell (by dsimp only; omega) h5
    first | (go_simp; done) | rfl
  try simp only [Act.put]
  refine wpAnyL_take (i := 8) (v := .int .i64 x) rfl (by kernel_rfl) (by kernel_rfl) (by kernel_rfl) rfl (by kernel_rfl) (fun _ _ _ h => h) (Or.inl ⟨by rfl, fun W hW => ?_⟩) hSw ?_
  · have h7 := hW.cell (by dsimp only; omega) h7
    first | (go_simp; done) | rfl
  try simp only [Act.put]
  refine wpAnyL_only (rs := [9]) (by kernel_rfl) (by simp) (by rfl) ?_
  refine wpAny_one (i := 9) (by kernel_rfl) rfl (fun J hK => ?_)
  rw [if_pos (by rfl)]
  go_simp
  refine hK.out _ _ ?_
  clear hK J
  try simp only [Act.put, List.setIfInBounds_toArray, List.set_cons_zero, List.set_cons_succ]
  refine wpAny_one (i := 10) (by kernel_rfl) rfl (fun J hK => ?_)
  rw [if_pos (by rfl)]
  go_simp
  refine hK.out _ _ ?_
  clear hK J
  try simp only [Act.put, List.setIfInBounds_toArray, List.set_cons_zero, List.set_cons_succ]
  refine wpAny_done (by kernel_rfl) ?_ _
  go_wp2_with fail
  go_end0
  exact ⟨rfl, rfl⟩
set_option maxHeartbeats 8000000 in
theorem begin1_any (U : World) (b p wg N cap c2 s : Nat) (uw : Value) (h2 : U.cell? ⟨c2, 0, none⟩ = some (.pointer (some ⟨p, 0, none⟩)))
    (d0 : U.cell? ⟨p, 0, none⟩ = some (.pointer (some ⟨b, 0, none⟩))) (e0 : U.cell? ⟨b, 0, none⟩ = some (.slice (some ⟨wg, 0, none⟩) N cap)) (f0 : U.frozen? ⟨b, 0, none⟩ = false) (d8 : U.cell? ⟨p, 8, none⟩ = some (.int .i64 (s : Int))) (d11 : U.cell? ⟨p, 11, none⟩ = some uw) (f11 : U.frozen? ⟨p, 11, none⟩ = false) (hs : s ≤ N) (_hN : N ≤ 65537) (hc : N ≤ cap)
    (hl2 : c2 < U.heap.size) (hlp : p < U.heap.size) (hlb : b < U.heap.size) (hpb : p ≠ b) (hcb : c2 ≠ b) :
    Calls Try.prog 58 #[.pointer (some ⟨c2, 0, none⟩)] U fun e w' => e = .returned (.tuple #[]) ∧ w' = (U.setCell ⟨b, 0, none⟩ (.slice (some ⟨wg, 0, none⟩) s cap)).drew.setCell ⟨p, 11, none⟩ (.slice none 0 0) := by
  go_enter Try.func58, Try.ntmps58
  go_wp2_with fail
  refine wp_region_late (S := SameTo (U.heap.size) U) (fun j => decide (16 ≤ j)) (by kernel_rfl) (SameTo.drew _ _) (fun hSw => ?_)
  refine wpAnyL_take (i := 0) (v := .pointer (some ⟨p, 0, none⟩)) rfl (by kernel_rfl) (by kernel_rfl) (by kernel_rfl) rfl (by kernel_rfl) (fun _ _ _ h => h) (Or.inl ⟨by rfl, fun W hW => ?_⟩) hSw ?_
  · have h2 := hW.cell (by dsimp only; omega) h2
    first | (go_simp; done) | rfl
  try simp only [Act.put, List.setIfInBounds_toArray]
  refine wpAnyL_take (i := 1) (v := .pointer (some ⟨p, 0, none⟩)) rfl (by kernel_rfl) (by kernel_rfl) (by kernel_rfl) rfl (by kernel_rfl) (fun _ _ _ h => h) (Or.inl ⟨by rfl, fun W hW => ?_⟩) hSw ?_
  · first | (go_simp; done) | rfl
  try simp only [Act.put]
  refine wpAnyL_take (i := 2) (v := .pointer (some ⟨p, 0, none⟩)) rfl (by kernel_rfl) (by kernel_rfl) (by kernel_rfl) rfl (by kernel_rfl) (fun _ _ _ h => h) (Or.inl ⟨by rfl, fun W hW => ?_⟩) hSw ?_
  · first | (go_simp; done) | rfl
  try simp only [Act.put]
  refine wpAnyL_take (i := 3) (v := .pointer (some ⟨b, 0, none⟩)) rfl (by kernel_rfl) (by kernel_rfl) (by kernel_rfl) rfl (by kernel_rfl) (fun _ _ _ h => h) (Or.inl ⟨by rfl, fun W hW => ?_⟩) hSw ?_
  · have d0 := hW.cell (by dsimp only; omega) d0
    first | (go_simp; done) | rfl
  try simp only [Act.put]
  refine wpAnyL_take (i := 4) (v := .pointer (some ⟨p, 0, none⟩)) rfl (by kernel_rfl) (by kernel_rfl) (by kernel_rfl) rfl (by kernel_rfl) (fun _ _ _ h => h) (Or.inl ⟨by rfl, fun W hW => ?_⟩) hSw ?_
  · have h2 := hW.cell (by dsimp only; omega) h2
    first | (go_simp; done) | rfl
  try simp only [Act.put]
  refine wpAnyL_take (i := 5) (v := .pointer (some ⟨p, 0, none⟩)) rfl (by kernel_rfl) (by kernel_rfl) (by kernel_rfl) rfl (by kernel_rfl) (fun _ _ _ h => h) (Or.inl ⟨by rfl, fun W hW => ?_⟩) hSw ?_
  · first | (go_simp; done) | rfl
  try simp only [Act.put]
  refine wpAnyL_take (i := 6) (v := .pointer (some ⟨p, 0, none⟩)) rfl (by kernel_rfl) (by kernel_rfl) (by kernel_rfl) rfl (by kernel_rfl) (fun _ _ _ h => h) (Or.inl ⟨by rfl, fun W hW => ?_⟩) hSw ?_
  · first | (go_simp; done) | rfl
  try simp only [Act.put]
  refine wpAnyL_take (i := 7) (v := .pointer (some ⟨b, 0, none⟩)) rfl (by kernel_rfl) (by kernel_rfl) (by kernel_rfl) rfl (by kernel_rfl) (fun _ _ _ h => h) (Or.inl ⟨by rfl, fun W hW => ?_⟩) hSw ?_
  · have d0 := hW.cell (by dsimp only; omega) d0
    first | (go_simp; done) | rfl
  try simp only [Act.put]
  refine wpAnyL_take (i := 8) (v := .pointer (some ⟨b, 0, none⟩)) rfl (by kernel_rfl) (by kernel_rfl) (by kernel_rfl) rfl (by kernel_rfl) (fun _ _ _ h => h) (Or.inl ⟨by rfl, fun W hW => ?_⟩) hSw ?_
  · first | (go_simp; done) | rfl
  try simp only [Act.put]
  refine wpAnyL_take (i := 9) (v := .pointer (some ⟨b, 0, none⟩)) rfl (by kernel_rfl) (by kernel_rfl) (by kernel_rfl) rfl (by kernel_rfl) (fun _ _ _ h => h) (Or.inl ⟨by rfl, fun W hW => ?_⟩) hSw ?_
  · first | (go_simp; done) | rfl
  try simp only [Act.put]
  refine wpAnyL_take (i := 10) (v := .slice (some ⟨wg, 0, none⟩) N cap) rfl (by kernel_rfl) (by kernel_rfl) (by kernel_rfl) rfl (by kernel_rfl) (fun _ _ _ h => h) (Or.inl ⟨by rfl, fun W hW => ?_⟩) hSw ?_
  · have e0 := hW.cell (by dsimp only; omega) e0
    first | (go_simp; done) | rfl
  try simp only [Act.put]
  refine wpAnyL_take (i := 11) (v := .pointer (some ⟨p, 0, none⟩)) rfl (by kernel_rfl) (by kernel_rfl) (by kernel_rfl) rfl (by kernel_rfl) (fun _ _ _ h => h) (Or.inl ⟨by rfl, fun W hW => ?_⟩) hSw ?_
  · have h2 := hW.cell (by dsimp only; omega) h2
    first | (go_simp; done) | rfl
  try simp only [Act.put]
  refine wpAnyL_take (i := 12) (v := .pointer (some ⟨p, 0, none⟩)) rfl (by kernel_rfl) (by kernel_rfl) (by kernel_rfl) rfl (by kernel_rfl) (fun _ _ _ h => h) (Or.inl ⟨by rfl, fun W hW => ?_⟩) hSw ?_
  · first | (go_simp; done) | rfl
  try simp only [Act.put]
  refine wpAnyL_take (i := 13) (v := .pointer (some ⟨p, 8, none⟩)) rfl (by kernel_rfl) (by kernel_rfl) (by kernel_rfl) rfl (by kernel_rfl) (fun _ _ _ h => h) (Or.inl ⟨by rfl, fun W hW => ?_⟩) hSw ?_
  · first | (go_simp; done) | rfl
  try simp only [Act.put]
  refine wpAnyL_take (i := 14) (v := .int .i64 (s : Int)) rfl (by kernel_rfl) (by kernel_rfl) (by kernel_rfl) rfl (by kernel_rfl) (fun _ _ _ h => h) (Or.inl ⟨by rfl, fun W hW => ?_⟩) hSw ?_
  · have d8 := hW.cell (by dsimp only; omega) d8
    first | (go_simp; done) | rfl
  try simp only [Act.put]
  refine wpAnyL_take (i := 15) (v := .slice (some ⟨wg, 0, none⟩) s cap) rfl (by kernel_rfl) (by kernel_rfl) (by kernel_rfl) rfl (by kernel_rfl) (fun _ _ _ h => h) (Or.inl ⟨by rfl, fun W hW => ?_⟩) hSw ?_
  · go_simp; exact fun h => absurd h (by omega)
  try simp only [Act.put]
  refine wpAnyL_only (rs := [16]) (by kernel_rfl) (by simp) (by rfl) ?_
  refine wpAny_one (i := 16) (by kernel_rfl) rfl (fun J hK => ?_)
  rw [if_pos (by rfl)]
  go_simp
  refine hK.out _ _ ?_
  clear hK J
  try simp only [Act.put, List.setIfInBounds_toArray, List.set_cons_zero, List.set_cons_succ]
  refine wpAny_one (i := 17) (by kernel_rfl) rfl (fun J hK => ?_)
  rw [if_pos (by rfl)]
  go_simp
  refine hK.out _ _ ?_
  clear hK J
  try simp only [Act.put, List.setIfInBounds_toArray, List.set_cons_zero, List.set_cons_succ]
  refine wpAny_one (i := 18) (by kernel_rfl) rfl (fun J hK => ?_)
  rw [if_pos (by rfl)]
  go_simp
  refine hK.out _ _ ?_
  clear hK J
  try simp only [Act.put, List.setIfInBounds_toArray, List.set_cons_zero, List.set_cons_succ]
  refine wpAny_done (by kernel_rfl) ?_ _
  have hp2 : ((U.setCell ⟨b, 0, none⟩ (.slice (some ⟨wg, 0, none⟩) s cap)).drew).heap[p]? = U.heap[p]? := Below.heap_setCell _ _ _ _ hpb
  have hc2 : ((U.setCell ⟨b, 0, none⟩ (.slice (some ⟨wg, 0, none⟩) s cap)).drew).heap[c2]? = U.heap[c2]? := Below.heap_setCell _ _ _ _ hcb
  have h2' : ((U.setCell ⟨b, 0, none⟩ (.slice (some ⟨wg, 0, none⟩) s cap)).drew).cell? ⟨c2, 0, none⟩ = some (.pointer (some ⟨p, 0, none⟩)) := by rw [← h2]; simp only [World.cell?, hc2]
  have d11' : ((U.setCell ⟨b, 0, none⟩ (.slice (some ⟨wg, 0, none⟩) s cap)).drew).cell? ⟨p, 11, none⟩ = some uw := by rw [← d11]; simp only [World.cell?, hp2]
  have f11' : ((U.setCell ⟨b, 0, none⟩ (.slice (some ⟨wg, 0, none⟩) s cap)).drew).frozen? ⟨p, 11, none⟩ = false := by rw [← f11]; simp only [World.frozen?, hp2]
  obtain ⟨V, hV⟩ : ∃ V, V = (U.setCell ⟨b, 0, none⟩ (.slice (some ⟨wg, 0, none⟩) s cap)).drew := ⟨_, rfl⟩
  rw [← hV] at h2' d11' f11' ⊢
  have HV := Lib.hid hV
  clear hV hp2 hc2 h2 d0 e0 d8 d11 f0 f11
  go_wp2_with fail
  go_end0
  exact ⟨rfl, by rw [HV.out]⟩
end Go.Proofs.Ytijciojipcgiaaa
