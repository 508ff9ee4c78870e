/- A new checker. -/
import Derived.Test.YtgndpcoplkhhgaaGreatDoorRows
import Derived.Test.YtgndpcoplkhhgaaGreatDoorIrLast
import Derived.Test.YtgndpcoplkhhgaaGreatDoorTypSame
import Derived.Test.YtgndpcoplkhhgaaGreatDoorTypMade
import Derived.LoopTactic
import Derived.LoopN
import Derived.Deep.LoopGhost
import Derived.WalkKit
import Derived.WalkSpells
import Derived.WalkLawsBesides
import Derived.Lib.Hide
import Derived.OrdersHeld
import Derived.Deep.RegionHeld
import Derived.Deep.DrawnRows
import Derived.RegionTactic
import Derived.Deep.RegionHeld3
import Derived.Laws.MakeOwn
import Derived.Laws.OwnMore
namespace Go.Proofs.YtgndpcoplkhhgaaGreatDoor
open Go.RowKit
set_option maxRecDepth 100000
attribute [local go_sem ↓] bld_eq bls_eq

theorem made_one (z : Value) (n : Nat) : madeCells #[z] n = (List.replicate n z).toArray := by
  unfold madeCells
  apply Array.ext
  · simp
  · intro i h1 h2
    simp [Nat.mod_one]
theorem infoBool : (Tryz.prog.info? 4).map (fun i => (i.zero, i.size, i.bytes)) = some (some (.bool false), 1, 1) := by kernel_rfl
theorem make_bools (n : Nat) (hn : n ≤ 8192) (w : World) : (Instr.makeSlice 36 (.int .i64 (n : Int)) (.int .i64 (n : Int))).run Tryz.prog w = .ok (.slice (some ⟨w.heap.size, 0, none⟩) n n) (w.alloc (.cells ((List.replicate n false).map Value.bool).toArray 4)) := by
  obtain ⟨i0, hi, hz0, hz1, hz2⟩ := info_parts infoBool
  have h := run_make (P := Tryz.prog) w 36 4 i0 (.bool false) Tryz.underlying36 hi hz0 .i64 .i64 (n : Int) (n : Int) (by omega) (by omega) (by rw [hz2]; omega) (by omega)
  rw [hz1, Int.toNat_natCast, Nat.mul_one] at h
  rw [h, List.map_replicate, ← made_one]
  rfl
/-- What newChecker answers. -/
def NewCkE (B : Nat) (g : Gr) (W : Int) (w : World) (e : Ending) (w' : World) : Prop := ∃ c m, e = .returned (.pointer (some ⟨c, 0, none⟩)) ∧ CkAt w' B c m g W (List.replicate g.sites.toNat false) ∧ Below w.heap.size w w' ∧ w.heap.size ≤ c ∧ w.heap.size ≤ m
set_option maxHeartbeats 8000000 in
theorem newck_any (B : Nat) (g : Gr) (W : Int) (w : World) (hI : GIn w B g) (hBw : B ≤ w.heap.size) (hs : 0 ≤ g.sites ∧ g.sites ≤ 8192) (hW : -9223372036854775808 ≤ W ∧ W ≤ 9223372036854775807) :
    Calls Tryz.prog 13 #[.agg #[g.rv, .int .i64 g.sites, g.bv], .int .i64 W] w (NewCkE B g W w) := by
  obtain ⟨ro, rc, er, -, -⟩ := hI.rlies.form
  obtain ⟨bo, bc, eb, -, -⟩ := hI.blies.form
  obtain ⟨n, hn⟩ : ∃ n : Nat, g.sites = (n : Int) := ⟨g.sites.toNat, by omega⟩
  have hG := hI
  obtain ⟨rv, refs, sites, bv, blocks⟩ := g
  simp only at *
  subst hn er eb
  have hmk := make_bools n (by omega)
  generalize hNR : refs.length = NR at *
  generalize hNB : blocks.length = NB at *
  obtain ⟨W1, hW1⟩ : ∃ W1, W1 = w.alloc (.cells #[.slice ro NR rc, .int .i64 (n : Int), .slice bo NB bc] 39) := ⟨_, rfl⟩
  have hb1 : Below w.heap.size w W1 := by rw [hW1]; exact below_box w _
  have hz1 : W1.heap.size = w.heap.size + 1 := by rw [hW1]; simp
  have hO : W1.heap[w.heap.size]? = some (.cells #[.slice ro NR rc, .int .i64 (n : Int), .slice bo NB bc] 39 (0, 0)) := by rw [hW1]; exact (MapKept.heap_alloc _ _).1
  obtain ⟨p0, p1, p2⟩ := own3 hO
  have e5 := fun (b : Nat) => bld_of 72 #[(0, .agg #[.slice ro NR rc, .int .i64 (n : Int), .slice bo NB bc]), (1, .int .i64 W), (2, .slice (some ⟨b, 0, none⟩) n n)] #[.slice ro NR rc, .int .i64 (n : Int), .slice bo NB bc, .int .i64 W, .slice (some ⟨b, 0, none⟩) n n] (by kernel_rfl)
  have HI := Lib.hid hG
  have HB := Lib.hid hb1
  have HW := Lib.hid hW1
  have HNN := Lib.hid (And.intro hNR hNB)
  obtain ⟨M, hM⟩ : ∃ M, M = ((List.replicate n false).map Value.bool).toArray := ⟨_, rfl⟩
  rw [← hM] at hmk
  have HM := Lib.hid hM
  clear hI hG hb1 hM hO hW1 hNR hNB
  go_enter Tryz.func13, Tryz.ntmps13
  go_wp2_with fail
  rw [← HW.out]
  refine wp_region_held_drew (S := SameTo (w.heap.size + 1) W1) (by kernel_rfl) (SameTo.drew _ _) (fun hSw => ?_)
  refine wpAnyH_take (i := 0) (oi := { dst := some 5, op := Op.load 39 (Operand.tmp 2), type := 39, pos := "check.go:56", after := #[], guard := none }) (v := .agg #[.slice ro NR rc, .int .i64 (n : Int), .slice bo NB bc]) rfl (by kernel_rfl) (by kernel_rfl) (by kernel_rfl) (fun _ _ _ h => h) (Or.inl ⟨by rfl, fun W hW => ?_⟩) hSw ?_
  · have p0 := hW.cell (by dsimp only; omega) p0
    have p1 := hW.cell (by dsimp only; omega) p1
    have p2 := hW.cell (by dsimp only; omega) p2
    first | (go_simp; done) | rfl
  try simp only [Act.put, List.setIfInBounds_toArray, List.set_cons_zero, List.set_cons_succ]
  refine wpAnyH_take (i := 1) (oi := { dst := some 6, op := Op.move (Operand.tmp 1), type := 3, pos := "check.go:56", after := #[], guard := none }) (v := .int .i64 W) rfl (by kernel_rfl) (by kernel_rfl) (by kernel_rfl) (fun _ _ _ h => h) (Or.inl ⟨by rfl, fun W hW => ?_⟩) hSw ?_
  · first | (go_simp; done) | rfl
  try simp only [Act.put, List.setIfInBounds_toArray, List.set_cons_zero, List.set_cons_succ]
  refine wpAnyH_take (i := 2) (oi := { dst := some 7, op := Op.fieldAddr 39 (Operand.tmp 2) 1, type := 0, pos := "check.go:56", after := #[], guard := none }) (v := .pointer (some ⟨w.heap.size, 1, none⟩)) rfl (by kernel_rfl) (by kernel_rfl) (by kernel_rfl) (fun _ _ _ h => h) (Or.inl ⟨by rfl, fun W hW => ?_⟩) hSw ?_
  · first | (go_simp; done) | rfl
  try simp only [Act.put, List.setIfInBounds_toArray, List.set_cons_zero, List.set_cons_succ]
  refine wpAnyH_take (i := 3) (oi := { dst := some 8, op := Op.load 3 (Operand.tmp 7), type := 3, pos := "check.go:56", after := #[{ on := 2, ground := Ground.data }], guard := none }) (v := .int .i64 (n : Int)) rfl (by kernel_rfl) (by kernel_rfl) (by kernel_rfl) (fun _ _ _ h => h) (Or.inl ⟨by rfl, fun W hW => ?_⟩) hSw ?_
  · have p1 := hW.cell (by dsimp only; omega) p1
    first | (go_simp; done) | rfl
  try simp only [Act.put, List.setIfInBounds_toArray, List.set_cons_zero, List.set_cons_succ]
  refine wpAnyH_ready (rs := [4]) (by kernel_rfl) (by simp) ?_
  refine AllReadyH.cons (o := { dst := some 9, op := Op.makeSlice 36 (Operand.tmp 8) (Operand.tmp 8), type := 36, pos := "check.go:56", after := #[{ on := 3, ground := Ground.data }, { on := 3, ground := Ground.data }], guard := none }) rfl (fun K hK => ?_) AllReadyH.nil
  rw [if_pos (by rfl)]
  clear hSw
  go_simp
  
  refine hK.out _ _ (fun k hk => (Below.heap_alloc _ _ _ (by show k < W1.heap.size; omega))) (fun hSw => ?_)
  clear hK K
  try simp only [Act.put, List.setIfInBounds_toArray, List.set_cons_zero, List.set_cons_succ]
  refine wpAnyH_take (i := 5) (oi := { dst := some 10, op := Op.build 72 #[(0, Operand.tmp 5), (1, Operand.tmp 6), (2, Operand.tmp 9)], type := 72, pos := "check.go:56", after := #[{ on := 0, ground := Ground.data }, { on := 1, ground := Ground.data }, { on := 4, ground := Ground.data }], guard := none }) (v := .agg #[.slice ro NR rc, .int .i64 (n : Int), .slice bo NB bc, .int .i64 W, .slice (some ⟨W1.heap.size, 0, none⟩) n n]) rfl (by kernel_rfl) (by kernel_rfl) (by kernel_rfl) (fun _ _ _ h => h) (Or.inl ⟨by rfl, fun W hW => ?_⟩) hSw ?_
  · have e5x := e5 W1.heap.size; first | (go_simp; done) | rfl
  try simp only [Act.put, List.setIfInBounds_toArray, List.set_cons_zero, List.set_cons_succ]
  refine wpAnyH_ready (rs := [6]) (by kernel_rfl) (by simp) ?_
  refine AllReadyH.cons (o := { dst := some 11, op := Op.box 72 (Operand.tmp 10), type := 55, pos := "check.go:56", after := #[{ on := 5, ground := Ground.data }], guard := none }) rfl (fun K hK => ?_) AllReadyH.nil
  rw [if_pos (by rfl)]
  clear hSw
  go_simp
  
  refine hK.out _ _ (fun k hk => (Below.heap_alloc _ _ _ (by show k < ((W1.drew).alloc _).heap.size; simp; omega)).trans (Below.heap_alloc _ _ _ (by show k < W1.heap.size; omega))) (fun hSw => ?_)
  clear hK K
  try simp only [Act.put, List.setIfInBounds_toArray, List.set_cons_zero, List.set_cons_succ]
  refine wpAnyH_take (i := 7) (oi := { dst := some 4, op := Op.assign (Operand.tmp 11), type := 55, pos := "check.go:56", after := #[{ on := 6, ground := Ground.data }, { on := 0, ground := Ground.phase }, { on := 1, ground := Ground.phase }, { on := 2, ground := Ground.phase }, { on := 3, ground := Ground.phase }, { on := 4, ground := Ground.phase }, { on := 5, ground := Ground.phase }, { on := 6, ground := Ground.phase }], guard := none }) (v := .pointer (some ⟨W1.heap.size + 1, 0, none⟩)) rfl (by kernel_rfl) (by kernel_rfl) (by kernel_rfl) (fun _ _ _ h => h) (Or.inl ⟨by rfl, fun W hW => ?_⟩) hSw ?_
  · first | (go_simp; done) | rfl
  try simp only [Act.put, List.setIfInBounds_toArray, List.set_cons_zero, List.set_cons_succ]
  refine wpAnyH_done (by kernel_rfl) ?_ _
  go_wp2_with fail
  go_ret
  have hs2 : (W1.alloc (.cells M 4)).heap.size = W1.heap.size + 1 := by simp
  have hbb : Below W1.heap.size W1 ((W1.alloc (.cells M 4)).alloc (.cells #[.slice ro NR rc, .int .i64 (n : Int), .slice bo NB bc, .int .i64 W, .slice (some ⟨w.heap.size + 1, 0, none⟩) n n] 72)).drew := below_drewN ((below_box W1 _).alloc (by simp) _) 1
  have hbw := HB.out.trans (hbb.mono (by omega))
  have hlen : (List.replicate (Int.toNat (n : Int)) false).length = n := by simp
  refine ⟨W1.heap.size + 1, w.heap.size + 1, rfl, ⟨?_, ?_, HI.out.keeps (hbw.mono hBw), ⟨by omega, by omega, by omega, Nat.le_trans hBw hbw.size⟩, hW, by rw [hlen]; omega⟩, hbw, by omega, by omega⟩
  · have h := (MapKept.heap_alloc (W1.alloc (.cells M 4)) (.cells #[.slice ro NR rc, .int .i64 (n : Int), .slice bo NB bc, .int .i64 W, .slice (some ⟨w.heap.size + 1, 0, none⟩) n n] 72)).1
    rw [hs2] at h
    rw [hlen]
    exact h
  · have h := (MapKept.heap_alloc W1 (.cells M 4)).1
    have h2 := Below.heap_alloc (W1.alloc (.cells M 4)) (.cells #[.slice ro NR rc, .int .i64 (n : Int), .slice bo NB bc, .int .i64 W, .slice (some ⟨w.heap.size + 1, 0, none⟩) n n] 72) W1.heap.size (by omega)
    have h3 := h2.trans h
    rw [hz1] at h3
    rw [show ((List.replicate (Int.toNat (n : Int)) false).map Value.bool).toArray = M from by rw [HM.out, Int.toNat_natCast]]
    exact h3
end Go.Proofs.YtgndpcoplkhhgaaGreatDoor
