/- Worlds whose blocks below a number are the same. -/
import Derived.Test.YtgkjhnghibpeoaaRows
import Derived.Below
import Derived.Test.YtgkjhnghibpeoaaParseOrder
import Derived.Test.YtgkjhnghibpeoaaIrLast
import Derived.Test.YtgkjhnghibpeoaaIrSizes
import Derived.LoopTactic
import Derived.LoopN
import Derived.Deep.LoopGhost
import Derived.WalkKit
import Derived.WalkSpells
import Derived.WalkLawsBesides
import Derived.Lib.Hide
import Derived.OrdersHeld
import Derived.Deep.RegionHeld
import Derived.Deep.DrawnRows
import Derived.RegionTactic
import Derived.Deep.RegionHeld3
import Derived.Laws.MakeOwn
import Derived.Laws.OwnMore
import Derived.Test.YtgkjhnghibpeoaaFlEveryP
namespace Go.Proofs.Ytgkjhnghibpeoaa
open Go.RowKit
/-- The blocks below L are as they were. -/
def SameTo (L : Nat) (w W : World) : Prop := ∀ k, k < L → W.heap[k]? = w.heap[k]?
theorem SameTo.refl (L : Nat) (w : World) : SameTo L w w := fun _ _ => rfl
theorem SameTo.drew (L : Nat) (w : World) : SameTo L w w.drew := fun _ _ => rfl
theorem SameTo.cell {L : Nat} {w W : World} (h : SameTo L w W) {p : Addr} {v : Value} (hp : p.block < L) (hc : w.cell? p = some v) : W.cell? p = some v := by
  rw [← hc]; simp only [World.cell?, h _ hp]
theorem SameTo.of {L : Nat} {w W : World} (h : Below L w W) : SameTo L w W := fun k hk => h.block k hk
theorem SameTo.trans {L : Nat} {a b c : World} (h : SameTo L a b) (k : SameTo L b c) : SameTo L a c := fun i hi => (k i hi).trans (h i hi)

end Go.Proofs.Ytgkjhnghibpeoaa
namespace Go.Proofs.Ytgkjhnghibpeoaa
open Go.RowKit
set_option maxRecDepth 100000
attribute [local go_sem ↓] bld_eq bls_eq

theorem made_one (z : Value) (n : Nat) : madeCells #[z] n = (List.replicate n z).toArray := by
  unfold madeCells
  apply Array.ext
  · simp
  · intro i h1 h2
    simp [Nat.mod_one]
theorem infoBool : (Try.prog.info? 4).map (fun i => (i.zero, i.size, i.bytes)) = some (some (.bool false), 1, 1) := by kernel_rfl
theorem make_bools (n : Nat) (hn : n ≤ 8192) (w : World) : (Instr.makeSlice 22 (.int .i64 (n : Int)) (.int .i64 (n : Int))).run Try.prog w = .ok (.slice (some ⟨w.heap.size, 0, none⟩) n n) (w.alloc (.cells ((List.replicate n false).map Value.bool).toArray 4)) := by
  obtain ⟨i0, hi, hz0, hz1, hz2⟩ := info_parts infoBool
  have h := run_make (P := Try.prog) w 22 4 i0 (.bool false) Try.underlying22 hi hz0 .i64 .i64 (n : Int) (n : Int) (by omega) (by omega) (by rw [hz2]; omega) (by omega)
  rw [hz1, Int.toNat_natCast, Nat.mul_one] at h
  rw [h, List.map_replicate, ← made_one]
  rfl
/-- What newChecker answers. -/
def NewCkE (B : Nat) (g : Gr) (W : Int) (w : World) (e : Ending) (w' : World) : Prop := ∃ c m, e = .returned (.pointer (some ⟨c, 0, none⟩)) ∧ CkAt w' B c m g W (List.replicate g.sites.toNat false) ∧ Below w.heap.size w w' ∧ w.heap.size ≤ c ∧ w.heap.size ≤ m
set_option maxHeartbeats 8000000 in
theorem newck_any (B : Nat) (g : Gr) (W : Int) (w : World) (hI : GIn w B g) (hBw : B ≤ w.heap.size) (hs : 0 ≤ g.sites ∧ g.sites ≤ 8192) (hW : -9223372036854775808 ≤ W ∧ W ≤ 9223372036854775807) :
    Calls Try.prog 32 #[.agg #[g.rv, .int .i64 g.sites, g.bv], .int .i64 W] w (NewCkE B g W w) := by
  obtain ⟨ro, rc, er, -, -⟩ := hI.rlies.form
  obtain ⟨bo, bc, eb, -, -⟩ := hI.blies.form
  obtain ⟨n, hn⟩ : ∃ n : Nat, g.sites = (n : Int) := ⟨g.sites.toNat, by omega⟩
  have hG := hI
  obtain ⟨rv, refs, sites, bv, blocks⟩ := g
  simp only at *
  subst hn er eb
  have hmk := make_bools n (by omega)
  generalize hNR : refs.length = NR at *
  generalize hNB : blocks.length = NB at *
  obtain ⟨W1, hW1⟩ : ∃ W1, W1 = w.alloc (.cells #[.slice ro NR rc, .int .i64 (n : Int), .slice bo NB bc] 25) := ⟨_, rfl⟩
  have hb1 : Below w.heap.size w W1 := by rw [hW1]; exact below_box w _
  have hz1 : W1.heap.size = w.heap.size + 1 := by rw [hW1]; simp
  have hO : W1.heap[w.heap.size]? = some (.cells #[.slice ro NR rc, .int .i64 (n : Int), .slice bo NB bc] 25 (0, 0)) := by rw [hW1]; exact (MapKept.heap_alloc _ _).1
  obtain ⟨p0, p1, p2⟩ := own3 hO
  have e5 := fun (b : Nat) => bld_of 86 #[(0, .agg #[.slice ro NR rc, .int .i64 (n : Int), .slice bo NB bc]), (1, .int .i64 W), (2, .slice (some ⟨b, 0, none⟩) n n)] #[.slice ro NR rc, .int .i64 (n : Int), .slice bo NB bc, .int .i64 W, .slice (some ⟨b, 0, none⟩) n n] (by kernel_rfl)
  have HI := Lib.hid hG
  have HB := Lib.hid hb1
  have HW := Lib.hid hW1
  have HNN := Lib.hid (And.intro hNR hNB)
  obtain ⟨M, hM⟩ : ∃ M, M = ((List.replicate n false).map Value.bool).toArray := ⟨_, rfl⟩
  rw [← hM] at hmk
  have HM := Lib.hid hM
  clear hI hG hb1 hM hO hW1 hNR hNB
  go_enter Try.func32, Try.ntmps32
  go_wp2_with fail
  rw [← HW.out]
  refine wp_region_held_drew (S := SameTo (w.heap.size + 1) W1) (by kernel_rfl) (SameTo.drew _ _) (fun hSw => ?_)
  refine tG 0 (.agg #[.slice ro NR rc, .int .i64 (n : Int), .slice bo NB bc]) hSw (fun W hW => ?_) ?_
  · have p0 := hW.cell (by dsimp only; omega) p0
    have p1 := hW.cell (by dsimp only; omega) p1
    have p2 := hW.cell (by dsimp only; omega) p2
    first | (go_simp; done) | rfl
  try simp only [nS]
  refine tH 1 (.int .i64 W) hSw ?_
  try simp only [nS]
  refine tH 2 (.pointer (some ⟨w.heap.size, 1, none⟩)) hSw ?_
  try simp only [nS]
  refine tG 3 (.int .i64 (n : Int)) hSw (fun W hW => ?_) ?_
  · have p1 := hW.cell (by dsimp only; omega) p1
    first | (go_simp; done) | rfl
  try simp only [nS]
  refine tR 4 (fun K hK => ?_)
  clear hSw
  go_simp
  
  refine hK.out _ _ (fun k hk => (Below.heap_alloc _ _ _ (by show k < W1.heap.size; omega))) (fun hSw => ?_)
  clear hK K
  try simp only [nS]
  refine tG 5 (.agg #[.slice ro NR rc, .int .i64 (n : Int), .slice bo NB bc, .int .i64 W, .slice (some ⟨W1.heap.size, 0, none⟩) n n]) hSw (fun W hW => ?_) ?_
  · have e5x := e5 W1.heap.size; first | (go_simp; done) | rfl
  try simp only [nS]
  refine tR 6 (fun K hK => ?_)
  clear hSw
  go_simp
  
  refine hK.out _ _ (fun k hk => (Below.heap_alloc _ _ _ (by show k < ((W1.drew).alloc _).heap.size; simp; omega)).trans (Below.heap_alloc _ _ _ (by show k < W1.heap.size; omega))) (fun hSw => ?_)
  clear hK K
  try simp only [nS]
  refine tH 7 (.pointer (some ⟨W1.heap.size + 1, 0, none⟩)) hSw ?_
  try simp only [nS]
  refine wpAnyH_done (by kernel_rfl) ?_ _
  go_wp2_with fail
  go_ret
  have hs2 : (W1.alloc (.cells M 4)).heap.size = W1.heap.size + 1 := by simp
  have hbb : Below W1.heap.size W1 ((W1.alloc (.cells M 4)).alloc (.cells #[.slice ro NR rc, .int .i64 (n : Int), .slice bo NB bc, .int .i64 W, .slice (some ⟨w.heap.size + 1, 0, none⟩) n n] 86)).drew := below_drewN ((below_box W1 _).alloc (by simp) _) 1
  have hbw := HB.out.trans (hbb.mono (by omega))
  have hlen : (List.replicate (Int.toNat (n : Int)) false).length = n := by simp
  refine ⟨W1.heap.size + 1, w.heap.size + 1, rfl, ⟨?_, ?_, HI.out.keeps (hbw.mono hBw), ⟨by omega, by omega, by omega, Nat.le_trans hBw hbw.size⟩, hW, by rw [hlen]; omega⟩, hbw, by omega, by omega⟩
  · have h := (MapKept.heap_alloc (W1.alloc (.cells M 4)) (.cells #[.slice ro NR rc, .int .i64 (n : Int), .slice bo NB bc, .int .i64 W, .slice (some ⟨w.heap.size + 1, 0, none⟩) n n] 86)).1
    rw [hs2] at h
    rw [hlen]
    exact h
  · have h := (MapKept.heap_alloc W1 (.cells M 4)).1
    have h2 := Below.heap_alloc (W1.alloc (.cells M 4)) (.cells #[.slice ro NR rc, .int .i64 (n : Int), .slice bo NB bc, .int .i64 W, .slice (some ⟨w.heap.size + 1, 0, none⟩) n n] 86) W1.heap.size (by omega)
    have h3 := h2.trans h
    rw [hz1] at h3
    rw [show ((List.replicate (Int.toNat (n : Int)) false).map Value.bool).toArray = M from by rw [HM.out, Int.toNat_natCast]]
    exact h3
end Go.Proofs.Ytgkjhnghibpeoaa
namespace Go.Proofs.Ytgkjhnghibpeoaa
open Go Go.RowKit

/-- Nothing that there was is written but the blocks of S. -/
structure Wr (S : Nat → Prop) (w w' : World) : Prop where
  os : w'.os = w.os
  tape : w'.tape = w.tape
  output : w'.output = w.output
  size : w.heap.size ≤ w'.heap.size
  block : ∀ g, g < w.heap.size → ¬ S g → w'.heap[g]? = w.heap[g]?
theorem Wr.refl (S : Nat → Prop) (w : World) : Wr S w w := ⟨rfl, rfl, rfl, Nat.le_refl _, fun _ _ _ => rfl⟩
theorem Wr.trans {S : Nat → Prop} {a b c : World} (h : Wr S a b) (k : Wr S b c) : Wr S a c :=
  ⟨k.os.trans h.os, k.tape.trans h.tape, k.output.trans h.output, Nat.le_trans h.size k.size, fun g h1 h2 => (k.block g (Nat.lt_of_lt_of_le h1 h.size) h2).trans (h.block g h1 h2)⟩
theorem Wr.of {S : Nat → Prop} {w w' : World} (h : Below w.heap.size w w') : Wr S w w' := ⟨h.os, h.tape, h.output, h.size, fun g h1 _ => h.block g h1⟩
theorem Wr.below {S : Nat → Prop} {B : Nat} {w w' : World} (h : Wr S w w') (hS : ∀ b, S b → B ≤ b) (hB : B ≤ w.heap.size) : Below B w w' :=
  ⟨h.os, h.tape, h.output, h.size, fun g hg => h.block g (by omega) (fun hs => by have := hS g hs; omega)⟩
theorem Wr.mono {S S' : Nat → Prop} {w w' : World} (h : Wr S w w') (hS : ∀ b, S b → S' b) : Wr S' w w' := ⟨h.os, h.tape, h.output, h.size, fun g h1 h2 => h.block g h1 (fun q => h2 (hS g q))⟩
theorem Wr.set {S : Nat → Prop} (w : World) {b i : Nat} (h : S b) (v : Value) : Wr S w (w.setCell ⟨b, i, none⟩ v) :=
  ⟨rfl, rfl, rfl, by simp [World.setCell], fun g _ h2 => Below.heap_setCell _ _ _ _ (by show g ≠ b; rintro rfl; exact h2 h)⟩
theorem Wr.drew {S : Nat → Prop} {a b : World} (h : Wr S a b) : Wr S a b.drew := ⟨h.os, h.tape, h.output, h.size, h.block⟩
theorem Wr.low {S S' : Nat → Prop} {a b c : World} (h : Below a.heap.size a b) (k : Wr S b c) (hS : ∀ g, g < a.heap.size → S g → S' g) : Wr S' a c :=
  ⟨k.os.trans h.os, k.tape.trans h.tape, k.output.trans h.output, Nat.le_trans h.size k.size, fun g h1 h2 => (k.block g (Nat.lt_of_lt_of_le h1 h.size) (fun q => h2 (hS g h1 q))).trans (h.block g h1)⟩
theorem size_set (w : World) (p : Addr) (v : Value) : (w.setCell p v).heap.size = w.heap.size := by simp [World.setCell]

def boolA (l : List Bool) : Array Value := (l.map Value.bool).toArray
def intA (l : List Int) : Array Value := (l.map (Value.int .i64)).toArray
def natA (l : List Nat) : Array Value := (l.map fun (n : Nat) => Value.int .i64 (n : Int)).toArray
def u64A (l : List Nat) : Array Value := (l.map fun (n : Nat) => Value.int .u64 (n : Int)).toArray
section
variable {w : World} {b i : Nat} {T : TypeId} {fr : Nat × Nat}
theorem boolA_at {l : List Bool} {x : Bool} (h : w.heap[b]? = some (.cells (boolA l) T fr)) (hx : l[i]? = some x) : w.cell? ⟨b, i, none⟩ = some (.bool x) := by
  rw [Lib.cell_of_heap h]; simp [boolA, hx]
theorem intA_at {l : List Int} {x : Int} (h : w.heap[b]? = some (.cells (intA l) T fr)) (hx : l[i]? = some x) : w.cell? ⟨b, i, none⟩ = some (.int .i64 x) := by
  rw [Lib.cell_of_heap h]; simp [intA, hx]
theorem natA_at {l : List Nat} {x : Nat} (h : w.heap[b]? = some (.cells (natA l) T fr)) (hx : l[i]? = some x) : w.cell? ⟨b, i, none⟩ = some (.int .i64 (x : Int)) := by
  rw [Lib.cell_of_heap h]; simp [natA, hx]
theorem u64A_at {l : List Nat} {x : Nat} (h : w.heap[b]? = some (.cells (u64A l) T fr)) (hx : l[i]? = some x) : w.cell? ⟨b, i, none⟩ = some (.int .u64 (x : Int)) := by
  rw [Lib.cell_of_heap h]; simp [u64A, hx]
theorem boolA_set {l : List Bool} (h : w.heap[b]? = some (.cells (boolA l) T (0, 0))) (k : Nat) (x : Bool) : (w.setCell ⟨b, k, none⟩ (.bool x)).heap[b]? = some (.cells (boolA (l.set k x)) T (0, 0)) := by
  rw [heap_setCell_same w _ k _ _ _ h]; unfold boolA; simp [List.map_set]
theorem intA_set {l : List Int} (h : w.heap[b]? = some (.cells (intA l) T (0, 0))) (k : Nat) (x : Int) : (w.setCell ⟨b, k, none⟩ (.int .i64 x)).heap[b]? = some (.cells (intA (l.set k x)) T (0, 0)) := by
  rw [heap_setCell_same w _ k _ _ _ h]; unfold intA; simp [List.map_set]
theorem natA_set {l : List Nat} (h : w.heap[b]? = some (.cells (natA l) T (0, 0))) (k : Nat) (x : Nat) : (w.setCell ⟨b, k, none⟩ (.int .i64 (x : Int))).heap[b]? = some (.cells (natA (l.set k x)) T (0, 0)) := by
  rw [heap_setCell_same w _ k _ _ _ h]; unfold natA; simp [List.map_set]
theorem u64A_set {l : List Nat} (h : w.heap[b]? = some (.cells (u64A l) T (0, 0))) (k : Nat) (x : Nat) : (w.setCell ⟨b, k, none⟩ (.int .u64 (x : Int))).heap[b]? = some (.cells (u64A (l.set k x)) T (0, 0)) := by
  rw [heap_setCell_same w _ k _ _ _ h]; unfold u64A; simp [List.map_set]
theorem one_set {x v : Value} (h : w.heap[b]? = some (.cells #[x] T (0, 0))) : (w.setCell ⟨b, 0, none⟩ v).heap[b]? = some (.cells #[v] T (0, 0)) := by
  rw [heap_setCell_same w _ 0 _ _ _ h]; rfl
theorem one_at {x : Value} (h : w.heap[b]? = some (.cells #[x] T fr)) : w.cell? ⟨b, 0, none⟩ = some x := by rw [Lib.cell_of_heap h]; rfl
end
/-- A list of numbers that lies in new memory. -/
def RowAt (w : World) (lo : Nat) (v : Value) (l : List Int) : Prop :=
  ∃ ao cap, v = .slice ao l.length cap ∧ (0 < l.length → ∃ gN off, ao = some ⟨gN, off, none⟩ ∧ lo ≤ gN ∧ gN < w.heap.size ∧ ∀ k x, l[k]? = some x → w.cell? ⟨gN, off + k, none⟩ = some (.int .i64 x))
theorem RowAt.keeps {w w' : World} {lo : Nat} {v : Value} {l : List Int} {S : Nat → Prop} (h : RowAt w lo v l) (hw : Wr S w w') (hS : ∀ b, S b → b < lo) : RowAt w' lo v l := by
  obtain ⟨ao, cap, e, h⟩ := h
  refine ⟨ao, cap, e, fun h0 => ?_⟩
  obtain ⟨gN, off, e1, h1, h2, h3⟩ := h h0
  exact ⟨gN, off, e1, h1, Nat.lt_of_lt_of_le h2 hw.size, fun k x hx => (World.cell?_of_block (hw.block gN h2 (fun q => by have := hS gN q; omega))).trans (h3 k x hx)⟩
theorem RowAt.belowK {w w' : World} {lo : Nat} {v : Value} {l : List Int} (h : RowAt w lo v l) (hw : Below w.heap.size w w') : RowAt w' lo v l := h.keeps (Wr.of (S := fun _ => False) hw) (fun _ q => q.elim)
theorem RowAt.down {w : World} {lo lo' : Nat} {v : Value} {l : List Int} (h : RowAt w lo v l) (hl : lo' ≤ lo) : RowAt w lo' v l := by
  obtain ⟨ao, cap, e, h⟩ := h
  refine ⟨ao, cap, e, fun h0 => ?_⟩
  obtain ⟨gN, off, e1, h1, h2, h3⟩ := h h0
  exact ⟨gN, off, e1, by omega, h2, h3⟩
theorem RowAt.form {w : World} {lo : Nat} {v : Value} {l : List Int} (h : RowAt w lo v l) : ∃ ao cap, v = .slice ao l.length cap := by
  obtain ⟨ao, cap, e, _⟩ := h; exact ⟨ao, cap, e⟩
theorem RowAt.get {w : World} {lo : Nat} {v : Value} {l : List Int} {ao : Option Addr} {n cap : Nat} (h : RowAt w lo v l) (e : v = .slice ao n cap) {k : Nat} (hk : k < l.length) : ∃ gN off, ao = some ⟨gN, off, none⟩ ∧ lo ≤ gN ∧ gN < w.heap.size ∧ w.cell? ⟨gN, off + k, none⟩ = some (.int .i64 l[k]) := by
  obtain ⟨ao', cap', e', h⟩ := h
  rw [e] at e'
  cases e'
  obtain ⟨gN, off, e1, h1, h2, h3⟩ := h (by omega)
  exact ⟨gN, off, e1, h1, h2, h3 k _ (List.getElem?_eq_getElem hk)⟩
theorem make_list (T E : TypeId) (z : Value) (bytes : Nat) (hI : (Try.prog.info? E).map (fun i => (i.zero, i.size, i.bytes)) = some (some z, 1, bytes)) (hz1 : z.cells = #[z]) (hu : Try.prog.underlying T = some (.slice E)) (n : Nat) (hn : n ≤ 8192) (hb : bytes ≤ 64) (w : World) :
    (Instr.makeSlice T (.int .i64 (n : Int)) (.int .i64 (n : Int))).run Try.prog w = .ok (.slice (some ⟨w.heap.size, 0, none⟩) n n) (w.alloc (.cells (List.replicate n z).toArray E)) := by
  obtain ⟨i0, hi, hz0, hz, hz2⟩ := info_parts hI
  have hm : n * bytes ≤ 8192 * 64 := Nat.mul_le_mul hn hb
  have hm2 : ((n * bytes : Nat) : Int) ≤ 524288 := by omega
  rw [Int.natCast_mul, Int.mul_comm] at hm2
  have h := run_make (P := Try.prog) w T E i0 z hu hi hz0 .i64 .i64 (n : Int) (n : Int) (by omega) (by omega) (by rw [hz2]; omega) (by omega)
  rw [hz, Int.toNat_natCast, Nat.mul_one] at h
  rw [h, hz1, ← made_one]
end Go.Proofs.Ytgkjhnghibpeoaa
