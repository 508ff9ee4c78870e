/- What is reached; on which side each block begins. -/
import Derived.Test.YtgkjhnghibpeoaaRows
import Derived.Test.YtgkjhnghibpeoaaFlPlace
import Derived.Test.YtgkjhnghibpeoaaIrSizes
import Derived.Test.YtgkjhnghibpeoaaFlMem
import Derived.Test.YtgkjhnghibpeoaaParseOrder
import Derived.LoopTactic
import Derived.LoopN
import Derived.Deep.LoopGhost
import Derived.WalkKit
import Derived.WalkSpells
import Derived.WalkLawsBesides
import Derived.Lib.Hide
import Derived.OrdersHeld
import Derived.Deep.RegionHeld
import Derived.Deep.DrawnRows
import Derived.RegionTactic
import Derived.Deep.RegionHeld3
import Derived.IntWalk
import Derived.Deep.QuietTactic
import Derived.BigQuiet
namespace Go.Proofs.Ytgkjhnghibpeoaa
open Go.RowKit
set_option maxRecDepth 1000000
attribute [local go_sem ↓] bld_eq bls_eq


theorem reach_no (B : Nat) (g : Gr) (w : World) (hI : GIn w B g) (hBw : B ≤ w.heap.size) (hm : mayB g = false) :
    Calls Try.prog 6 #[.agg #[g.rv, .int .i64 g.sites, g.bv]] w fun e w' => e = .returned (.tuple #[.slice none 0 0, .int .i64 14]) ∧ Below w.heap.size w w' := by
  obtain ⟨bo, bcp, eb, hbl, hbg⟩ := hI.blies.form
  obtain ⟨N, hN⟩ : ∃ N, N = g.blocks.length := ⟨_, rfl⟩
  rw [← hN] at eb hbg
  have HI := Lib.hid hI
  have HN := Lib.hid hN
  have HEB := Lib.hid eb
  obtain ⟨rv, hrv⟩ : ∃ x, x = g.rv := ⟨_, rfl⟩
  obtain ⟨st, hst⟩ : ∃ x, x = g.sites := ⟨_, rfl⟩
  have HRR := Lib.hid (And.intro hrv hst)
  rw [eb, ← hrv, ← hst]
  obtain ⟨q0, q1, q2⟩ := own3 (MapKept.heap_alloc w (.cells #[rv, .int .i64 st, .slice bo N bcp] 25)).1
  obtain ⟨W1, hW1⟩ : ∃ W1, W1 = w.alloc (.cells #[rv, .int .i64 st, .slice bo N bcp] 25) := ⟨_, rfl⟩
  have hb1 : Below w.heap.size w W1 := by rw [hW1]; exact below_box w _
  have hz1 : W1.heap.size = w.heap.size + 1 := by rw [hW1]; simp
  have hG1 : W1.heap[w.heap.size]? = some (.cells #[rv, .int .i64 st, .slice bo N bcp] 25 (0, 0)) := by rw [hW1]; exact (MapKept.heap_alloc _ _).1
  have hmb := may_any B g W1 (hI.keeps (hb1.mono hBw)) (by omega)
  rw [eb, ← hrv, ← hst] at hmb
  have HMB := Lib.hid hmb
  have HW1 := Lib.hid hW1
  have HB1 := Lib.hid hb1
  have HG1 := Lib.hid hG1
  rw [hm] at HMB
  clear hI hN eb hrv hst hbl hW1 hb1 hG1 hmb hbg
  go_enter Try.func6, Try.ntmps6
  go_wp2_with fail
  rw [← HW1.out]
  clear q0 q1 q2
  refine HMB.out.mono ?_; rintro e W2 ⟨rfl, hb2⟩
  have HE := Lib.hid (HB1.out.trans (hb2.mono (by omega)))
  clear hb2
  go_wp2_with fail
  go_ret2
  exact ⟨rfl, HE.out⟩
theorem ahead_no (B : Nat) (g : Gr) (w : World) (hI : GIn w B g) (hBw : B ≤ w.heap.size) (hm : mayB g = false) :
    Calls Try.prog 7 #[.agg #[g.rv, .int .i64 g.sites, g.bv]] w fun e w' => e = .returned (.tuple #[.slice none 0 0, .int .i64 14]) ∧ Below w.heap.size w w' := by
  obtain ⟨bo, bcp, eb, hbl, hbg⟩ := hI.blies.form
  obtain ⟨N, hN⟩ : ∃ N, N = g.blocks.length := ⟨_, rfl⟩
  rw [← hN] at eb hbg
  have HI := Lib.hid hI
  have HN := Lib.hid hN
  have HEB := Lib.hid eb
  obtain ⟨rv, hrv⟩ : ∃ x, x = g.rv := ⟨_, rfl⟩
  obtain ⟨st, hst⟩ : ∃ x, x = g.sites := ⟨_, rfl⟩
  have HRR := Lib.hid (And.intro hrv hst)
  rw [eb, ← hrv, ← hst]
  obtain ⟨q0, q1, q2⟩ := own3 (MapKept.heap_alloc w (.cells #[rv, .int .i64 st, .slice bo N bcp] 25)).1
  obtain ⟨W1, hW1⟩ : ∃ W1, W1 = w.alloc (.cells #[rv, .int .i64 st, .slice bo N bcp] 25) := ⟨_, rfl⟩
  have hb1 : Below w.heap.size w W1 := by rw [hW1]; exact below_box w _
  have hz1 : W1.heap.size = w.heap.size + 1 := by rw [hW1]; simp
  have hG1 : W1.heap[w.heap.size]? = some (.cells #[rv, .int .i64 st, .slice bo N bcp] 25 (0, 0)) := by rw [hW1]; exact (MapKept.heap_alloc _ _).1
  have hmb := may_any B g W1 (hI.keeps (hb1.mono hBw)) (by omega)
  rw [eb, ← hrv, ← hst] at hmb
  have HMB := Lib.hid hmb
  have HW1 := Lib.hid hW1
  have HB1 := Lib.hid hb1
  have HG1 := Lib.hid hG1
  rw [hm] at HMB
  clear hI hN eb hrv hst hbl hW1 hb1 hG1 hmb hbg
  go_enter Try.func7, Try.ntmps7
  go_wp2_with fail
  rw [← HW1.out]
  clear q0 q1 q2
  refine HMB.out.mono ?_; rintro e W2 ⟨rfl, hb2⟩
  have HE := Lib.hid (HB1.out.trans (hb2.mono (by omega)))
  clear hb2
  go_wp2_with fail
  go_ret2
  exact ⟨rfl, HE.out⟩
theorem fdom_no (B : Nat) (g : Gr) (w : World) (hI : GIn w B g) (hBw : B ≤ w.heap.size) (hm : mayB g = false) :
    Calls Try.prog 8 #[.agg #[g.rv, .int .i64 g.sites, g.bv]] w fun e w' => e = .returned (.tuple #[.slice none 0 0, .int .i64 14]) ∧ Below w.heap.size w w' := by
  obtain ⟨bo, bcp, eb, hbl, hbg⟩ := hI.blies.form
  obtain ⟨N, hN⟩ : ∃ N, N = g.blocks.length := ⟨_, rfl⟩
  rw [← hN] at eb hbg
  have HI := Lib.hid hI
  have HN := Lib.hid hN
  have HEB := Lib.hid eb
  obtain ⟨rv, hrv⟩ : ∃ x, x = g.rv := ⟨_, rfl⟩
  obtain ⟨st, hst⟩ : ∃ x, x = g.sites := ⟨_, rfl⟩
  have HRR := Lib.hid (And.intro hrv hst)
  rw [eb, ← hrv, ← hst]
  obtain ⟨q0, q1, q2⟩ := own3 (MapKept.heap_alloc w (.cells #[rv, .int .i64 st, .slice bo N bcp] 25)).1
  obtain ⟨W1, hW1⟩ : ∃ W1, W1 = w.alloc (.cells #[rv, .int .i64 st, .slice bo N bcp] 25) := ⟨_, rfl⟩
  have hb1 : Below w.heap.size w W1 := by rw [hW1]; exact below_box w _
  have hz1 : W1.heap.size = w.heap.size + 1 := by rw [hW1]; simp
  have hG1 : W1.heap[w.heap.size]? = some (.cells #[rv, .int .i64 st, .slice bo N bcp] 25 (0, 0)) := by rw [hW1]; exact (MapKept.heap_alloc _ _).1
  have hmb := may_any B g W1 (hI.keeps (hb1.mono hBw)) (by omega)
  rw [eb, ← hrv, ← hst] at hmb
  have HMB := Lib.hid hmb
  have HW1 := Lib.hid hW1
  have HB1 := Lib.hid hb1
  have HG1 := Lib.hid hG1
  rw [hm] at HMB
  clear hI hN eb hrv hst hbl hW1 hb1 hG1 hmb hbg
  go_enter Try.func8, Try.ntmps8
  go_wp2_with fail
  rw [← HW1.out]
  clear q0 q1 q2
  refine HMB.out.mono ?_; rintro e W2 ⟨rfl, hb2⟩
  have HE := Lib.hid (HB1.out.trans (hb2.mono (by omega)))
  clear hb2
  go_wp2_with fail
  go_ret2
  exact ⟨rfl, HE.out⟩
theorem inside_no (B : Nat) (g : Gr) (w : World) (hI : GIn w B g) (hBw : B ≤ w.heap.size) (hm : mayB g = false) :
    Calls Try.prog 9 #[.agg #[g.rv, .int .i64 g.sites, g.bv]] w fun e w' => e = .returned (.tuple #[.slice none 0 0, .int .i64 14]) ∧ Below w.heap.size w w' := by
  obtain ⟨bo, bcp, eb, hbl, hbg⟩ := hI.blies.form
  obtain ⟨N, hN⟩ : ∃ N, N = g.blocks.length := ⟨_, rfl⟩
  rw [← hN] at eb hbg
  have HI := Lib.hid hI
  have HN := Lib.hid hN
  have HEB := Lib.hid eb
  obtain ⟨rv, hrv⟩ : ∃ x, x = g.rv := ⟨_, rfl⟩
  obtain ⟨st, hst⟩ : ∃ x, x = g.sites := ⟨_, rfl⟩
  have HRR := Lib.hid (And.intro hrv hst)
  rw [eb, ← hrv, ← hst]
  obtain ⟨q0, q1, q2⟩ := own3 (MapKept.heap_alloc w (.cells #[rv, .int .i64 st, .slice bo N bcp] 25)).1
  obtain ⟨W1, hW1⟩ : ∃ W1, W1 = w.alloc (.cells #[rv, .int .i64 st, .slice bo N bcp] 25) := ⟨_, rfl⟩
  have hb1 : Below w.heap.size w W1 := by rw [hW1]; exact below_box w _
  have hz1 : W1.heap.size = w.heap.size + 1 := by rw [hW1]; simp
  have hG1 : W1.heap[w.heap.size]? = some (.cells #[rv, .int .i64 st, .slice bo N bcp] 25 (0, 0)) := by rw [hW1]; exact (MapKept.heap_alloc _ _).1
  have hmb := may_any B g W1 (hI.keeps (hb1.mono hBw)) (by omega)
  rw [eb, ← hrv, ← hst] at hmb
  have HMB := Lib.hid hmb
  have HW1 := Lib.hid hW1
  have HB1 := Lib.hid hb1
  have HG1 := Lib.hid hG1
  rw [hm] at HMB
  clear hI hN eb hrv hst hbl hW1 hb1 hG1 hmb hbg
  go_enter Try.func9, Try.ntmps9
  go_wp2_with fail
  rw [← HW1.out]
  clear q0 q1 q2
  refine HMB.out.mono ?_; rintro e W2 ⟨rfl, hb2⟩
  have HE := Lib.hid (HB1.out.trans (hb2.mono (by omega)))
  clear hb2
  go_wp2_with fail
  go_ret2
  exact ⟨rfl, HE.out⟩

/-- What Reach answers. -/
def RcE (bl : List Bk) (w : World) (e : Ending) (w' : World) : Prop := ∃ R gR, e = .returned (.tuple #[.slice (some ⟨gR, 0, none⟩) bl.length bl.length, .int .i64 0]) ∧ w.heap.size ≤ gR ∧ w'.heap[gR]? = some (.cells (boolA R) 4 (0, 0)) ∧ R.length = bl.length ∧ (∀ x, bitAt R x = true ↔ Rc bl x) ∧ Below w.heap.size w w'
set_option maxHeartbeats 16000000 in
theorem reach_any (B : Nat) (g : Gr) (w : World) (hI : GIn w B g) (hBw : B ≤ w.heap.size) (hm : mayB g = true) :
    Calls Try.prog 6 #[.agg #[g.rv, .int .i64 g.sites, g.bv]] w (RcE g.blocks w) := by
  have hg := fok_of hm
  obtain ⟨bo, bcp, eb, hbl, hbg⟩ := hI.blies.form
  obtain ⟨N, hN⟩ : ∃ N, N = g.blocks.length := ⟨_, rfl⟩
  rw [← hN] at eb hbg
  have hn8 : N ≤ 4096 := by rw [hN]; exact hg.room
  have HI := Lib.hid hI
  have HG := Lib.hid hg
  have HN := Lib.hid hN
  have HEB := Lib.hid eb
  obtain ⟨rv, hrv⟩ : ∃ x, x = g.rv := ⟨_, rfl⟩
  obtain ⟨st, hst⟩ : ∃ x, x = g.sites := ⟨_, rfl⟩
  have HRR := Lib.hid (And.intro hrv hst)
  rw [eb, ← hrv, ← hst]
  obtain ⟨q0, q1, q2⟩ := own3 (MapKept.heap_alloc w (.cells #[rv, .int .i64 st, .slice bo N bcp] 25)).1
  obtain ⟨W1, hW1⟩ : ∃ W1, W1 = w.alloc (.cells #[rv, .int .i64 st, .slice bo N bcp] 25) := ⟨_, rfl⟩
  have hb1 : Below w.heap.size w W1 := by rw [hW1]; exact below_box w _
  have hz1 : W1.heap.size = w.heap.size + 1 := by rw [hW1]; simp
  have hG1 : W1.heap[w.heap.size]? = some (.cells #[rv, .int .i64 st, .slice bo N bcp] 25 (0, 0)) := by rw [hW1]; exact (MapKept.heap_alloc _ _).1
  have hmb := may_any B g W1 (hI.keeps (hb1.mono hBw)) (by omega)
  rw [eb, ← hrv, ← hst] at hmb
  have HMB := Lib.hid hmb
  have HW1 := Lib.hid hW1
  have HB1 := Lib.hid hb1
  have HG1 := Lib.hid hG1
  rw [hm] at HMB
  unfold RcE
  rw [← hN]
  clear hI hg hN eb hrv hst hbl hW1 hb1 hG1 hmb hbg
  go_enter Try.func6, Try.ntmps6
  go_wp2_with fail
  rw [← HW1.out]
  clear q0 q1 q2
  refine HMB.out.mono ?_; rintro e W2 ⟨rfl, hb2⟩
  obtain ⟨q0, q1, q2⟩ := own3 ((hb2.block w.heap.size (by omega)).trans HG1.out)
  have hbb := HB1.out.trans (hb2.mono (by omega))
  have hre := reached_any B g W2 HG.out (HI.out.keeps (hbb.mono hBw)) (by have := hb2.size; omega)
  rw [HEB.out, ← HRR.out.1, ← HRR.out.2] at hre
  have HRE := Lib.hid hre
  have HBB := Lib.hid hbb
  have hs2 := hb2.size
  clear hb2 hbb hre
  go_wp2_with fail
  refine HRE.out.mono ?_; rintro e W3 ⟨R, gR, rfl, h1, h2, h3, h4, h5⟩
  rw [← HN.out] at h3 ⊢
  have HE := Lib.hid (show ∃ R gR', Ending.returned (.tuple #[.slice (some ⟨gR, 0, none⟩) N N, .int .i64 0]) = .returned (.tuple #[.slice (some ⟨gR', 0, none⟩) N N, .int .i64 0]) ∧ w.heap.size ≤ gR' ∧ W3.heap[gR']? = some (.cells (boolA R) 4 (0, 0)) ∧ R.length = N ∧ (∀ x, bitAt R x = true ↔ Rc g.blocks x) ∧ Below w.heap.size w W3 from
    ⟨R, gR, rfl, by omega, h2, h3, h4, HBB.out.trans (h5.mono (by omega))⟩)
  clear h1 h2 h3 h4 h5
  go_wp2_with fail
  go_ret2
  exact HE.out
/-- What Inside answers. -/
def InE (bl : List Bk) (w : World) (e : Ending) (w' : World) : Prop := ∃ I gI, e = .returned (.tuple #[.slice (some ⟨gI, 0, none⟩) bl.length bl.length, .int .i64 0]) ∧ w.heap.size ≤ gI ∧ w'.heap[gI]? = some (.cells (boolA I) 4 (0, 0)) ∧ InsP bl I ∧ Below w.heap.size w w'
set_option maxHeartbeats 16000000 in
theorem inside_any (B : Nat) (g : Gr) (w : World) (hI : GIn w B g) (hBw : B ≤ w.heap.size) (hm : mayB g = true) :
    Calls Try.prog 9 #[.agg #[g.rv, .int .i64 g.sites, g.bv]] w (InE g.blocks w) := by
  have hg := fok_of hm
  obtain ⟨bo, bcp, eb, hbl, hbg⟩ := hI.blies.form
  obtain ⟨N, hN⟩ : ∃ N, N = g.blocks.length := ⟨_, rfl⟩
  rw [← hN] at eb hbg
  have hn8 : N ≤ 4096 := by rw [hN]; exact hg.room
  have HI := Lib.hid hI
  have HG := Lib.hid hg
  have HN := Lib.hid hN
  have HEB := Lib.hid eb
  obtain ⟨rv, hrv⟩ : ∃ x, x = g.rv := ⟨_, rfl⟩
  obtain ⟨st, hst⟩ : ∃ x, x = g.sites := ⟨_, rfl⟩
  have HRR := Lib.hid (And.intro hrv hst)
  rw [eb, ← hrv, ← hst]
  obtain ⟨q0, q1, q2⟩ := own3 (MapKept.heap_alloc w (.cells #[rv, .int .i64 st, .slice bo N bcp] 25)).1
  obtain ⟨W1, hW1⟩ : ∃ W1, W1 = w.alloc (.cells #[rv, .int .i64 st, .slice bo N bcp] 25) := ⟨_, rfl⟩
  have hb1 : Below w.heap.size w W1 := by rw [hW1]; exact below_box w _
  have hz1 : W1.heap.size = w.heap.size + 1 := by rw [hW1]; simp
  have hG1 : W1.heap[w.heap.size]? = some (.cells #[rv, .int .i64 st, .slice bo N bcp] 25 (0, 0)) := by rw [hW1]; exact (MapKept.heap_alloc _ _).1
  have hmb := may_any B g W1 (hI.keeps (hb1.mono hBw)) (by omega)
  rw [eb, ← hrv, ← hst] at hmb
  have HMB := Lib.hid hmb
  have HW1 := Lib.hid hW1
  have HB1 := Lib.hid hb1
  have HG1 := Lib.hid hG1
  rw [hm] at HMB
  have m1 := make_bool N (by omega)
  obtain ⟨M1, hM1⟩ : ∃ M, M = boolA (List.replicate N false) := ⟨_, rfl⟩
  rw [← hM1] at m1
  have HM1 := Lib.hid hM1
  clear hI hg hN eb hrv hst hbl hW1 hb1 hG1 hmb hM1
  go_enter Try.func9, Try.ntmps9
  go_wp2_with fail
  rw [← HW1.out]
  clear q0 q1 q2
  refine HMB.out.mono ?_; rintro e W2 ⟨rfl, hb2⟩
  have hs2 := hb2.size
  obtain ⟨q0, q1, q2⟩ := own3 ((hb2.block w.heap.size (by omega)).trans HG1.out)
  obtain ⟨W3, hW3⟩ : ∃ W3, W3 = W2.alloc (.cells M1 4) := ⟨_, rfl⟩
  have hD3 : W3.heap[W2.heap.size]? = some (.cells (boolA (List.replicate N false)) 4 (0, 0)) := by rw [hW3, HM1.out]; exact (MapKept.heap_alloc _ _).1
  have hz3 : W3.heap.size = W2.heap.size + 1 := by rw [hW3]; simp
  have hb23 : Below W2.heap.size W2 W3 := by rw [hW3]; exact below_box W2 _
  have hb3 := (HB1.out.trans (hb2.mono (by omega))).trans (hb23.mono (by omega))
  have hor := ordered_any B g W3 HG.out (HI.out.keeps (hb3.mono hBw)) (by omega)
  rw [HEB.out, ← HRR.out.1, ← HRR.out.2] at hor
  have HOR := Lib.hid hor
  have HG3 := Lib.hid ((hb23.block w.heap.size (by omega)).trans ((hb2.block w.heap.size (by omega)).trans HG1.out))
  have HB3 := Lib.hid hb3
  have HD3 := Lib.hid hD3
  have HW3 := Lib.hid hW3
  have hlw : w.heap.size < W2.heap.size := by omega
  clear hb2 hD3 hW3 hb23 hb3 hor
  go_wp2_with fail
  rw [← HW3.out]
  clear q0 q1 q2
  refine HOR.out.mono ?_; rintro e W4 ⟨o, v, rfl, ho, hol, hrow, hb4⟩
  obtain ⟨ao, cap, rfl⟩ := hrow.form
  rw [List.length_map]
  obtain ⟨m, hm⟩ : ∃ m, m = o.length := ⟨_, rfl⟩
  rw [← HN.out] at hol
  rw [← hm] at hol ⊢
  have hs4 := hb4.size
  have HO := Lib.hid ho
  have HM := Lib.hid hm
  have HROW := Lib.hid hrow
  have HG4 := Lib.hid ((hb4.block w.heap.size (by omega)).trans HG3.out)
  have HD4 := Lib.hid ((hb4.block W2.heap.size (by omega)).trans HD3.out)
  have HB4 := Lib.hid (HB3.out.trans (hb4.mono (by omega)))
  clear ho hm hrow hb4
  go_wp2_with fail
  go_loopw [20] (fun q wr => ∃ k : Nat, k ≤ m ∧ q = .int .i64 (k : Int) ∧ Hid (∃ I, wr.heap[W2.heap.size]? = some (.cells (boolA I) 4 (0, 0)) ∧ InsI g.blocks o k I ∧ Wr (fun b => b = W2.heap.size) W4 wr)) (fun q _ => m - (intOf q).toNat)
  case atStart => exact ⟨0, Nat.zero_le _, rfl, Lib.hid ⟨_, HD4.out, by
    have h := InsI.start g.blocks o
    rw [← HN.out] at h
    exact h, Wr.refl _ _⟩⟩
  case round =>
    rename World => V
    obtain ⟨k, hk, rfl, HR⟩ := hrel
    obtain ⟨I, hIr, hII, hwr⟩ := HR.out
    have hzr := hwr.size
    by_cases hlk : k < m
    · have hko : k < o.length := by rw [← HM.out]; exact hlk
      obtain ⟨gN, offN, rfl, hg1, hg2, hcell⟩ := (HROW.out.keeps hwr (fun y hy => by omega)).get rfl (k := k) (by simpa using hko)
      rw [List.getElem_map] at hcell
      have hok : o[k]? = some o[k] := List.getElem?_eq_getElem hko
      generalize o[k] = n at hcell hok
      have hnl := HO.out.lt HG.out hok
      have hbV : Below w.heap.size w V := HB4.out.trans (hwr.below (fun x hx => by omega) (by omega))
      have hIV := HI.out.keeps (hbV.mono hBw)
      obtain ⟨go, off, rfl, hgo⟩ := hbg (by have := HN.out; omega)
      have hat := (hIV.blies.at HEB.out n hnl).2
      have hbi := hIV.blocks _ (List.getElem_mem hnl)
      have hbt : g.blocks[n]? = some g.blocks[n] := List.getElem?_eq_getElem hnl
      generalize g.blocks[n] = bk at hat hbi hbt
      obtain ⟨io, icap, eiv, -, -⟩ := hbi.lies.form
      obtain ⟨bv, hbv⟩ : ∃ bv, I[n]? = some bv := ⟨_, List.getElem?_eq_getElem (by rw [hII.len]; exact hnl)⟩
      have hbe := bitAt_some hbv
      have cI := boolA_at hIr hbv
      have HEN := Lib.hid (fun (u : World) (hu : Below V.heap.size V u) => ends_any bk bv B u (hbi.keeps (hu.mono (by omega))) (by have := hu.size; omega))
      have HNX := Lib.hid (fun (u : World) => fnext_any bk u ⟨_, _, _, eiv⟩)
      obtain ⟨IL, hIL⟩ : ∃ x, x = bk.ins.length := ⟨_, rfl⟩
      rw [← hIL] at eiv
      have hgV := (hwr.block w.heap.size (by omega) (by omega)).trans HG4.out
      obtain ⟨p0, p1, p2, p3, p4⟩ := bc hat
      rw [eiv] at p0 HNX HEN
      obtain ⟨q0, q1, q2⟩ := own3 hgV
      have htoo := hII.to HG.out HO.out hok hbt
      rw [hbe] at htoo
      rw [← HN.out] at hnl
      have hgw : go < w.heap.size := by omega
      obtain ⟨ON, hON⟩ : ∃ x, x = endB bk.ins bv := ⟨_, rfl⟩
      rw [← hON] at HEN htoo
      have HTO := Lib.hid htoo
      have HII := Lib.hid hII
      have HIR := Lib.hid hIr
      have HWR := Lib.hid hwr
      have HBT := Lib.hid hbt
      have HOK := Lib.hid hok
      have HGV := Lib.hid hgV
      have HPC := Lib.hid hat
      have HEI := Lib.hid eiv
      clear hIr hII hwr HR hok hbV hIV hat hbi hbt eiv hbv hbe hIL hgV hON htoo hko
      go_wp2_with fail
      refine wp_region_held_drew (S := SameTo V.heap.size V) (by kernel_rfl) (SameTo.drew _ _) (fun hSw => ?_)
      refine tH 0 (.pointer (some ⟨w.heap.size, 2, none⟩)) hSw ?_
      try simp only [nS]
      refine tG 1 (.slice (some ⟨go, off, none⟩) N bcp) hSw (fun W hW => ?_) ?_
      · have q2 := hW.cell (by dsimp only; omega) q2
        first | (go_simp; done) | rfl
      try simp only [nS]
      refine tH 2 (.int .i64 (n : Int)) hSw ?_
      try simp only [nS]
      refine tH 3 (.pointer (some ⟨go, off + n * 5, none⟩)) hSw ?_
      try simp only [nS]
      refine tG 4 (.agg #[.slice io IL icap, .int .u8 bk.last, .int .i64 bk.reg, .int .i64 bk.yes, .int .i64 bk.no]) hSw (fun W hW => ?_) ?_
      · have p0 := hW.cell (by dsimp only; omega) p0
        have p1 := hW.cell (by dsimp only; omega) p1
        have p2 := hW.cell (by dsimp only; omega) p2
        have p3 := hW.cell (by dsimp only; omega) p3
        have p4 := hW.cell (by dsimp only; omega) p4
        first | (go_simp; done) | rfl
      try simp only [nS]
      refine tH 5 (.slice (some ⟨W2.heap.size, 0, none⟩) N N) hSw ?_
      try simp only [nS]
      refine tH 6 (.int .i64 (n : Int)) hSw ?_
      try simp only [nS]
      refine tH 7 (.pointer (some ⟨W2.heap.size, n, none⟩)) hSw ?_
      try simp only [nS]
      refine tG 8 (.bool bv) hSw (fun W hW => ?_) ?_
      · have cI := hW.cell (by dsimp only; omega) cI
        first | (go_simp; done) | rfl
      try simp only [nS]
      refine tR 9 (fun K hK => ?_)
      clear hSw
      go_simp
      refine (HEN.out _ (below_drewN (Below.refl _ _) 1)).mono ?_; rintro e V1 ⟨rfl, hb5⟩
      have hb5' : Below V.heap.size V V1 := ⟨hb5.os, hb5.tape, hb5.output, hb5.size, hb5.block⟩
      have HB5 := Lib.hid hb5'
      clear hb5 hb5'
      refine hK.out _ _ (fun k hk => HB5.out.block k hk) (fun hSw => ?_)
      clear hK K
      try simp only [nS]
      refine tH 10 (.bool ON) hSw ?_
      try simp only [nS]
      refine wpAnyH_done (by kernel_rfl) ?_ _
      have hs5 := HB5.out.size
      clear p0 p1 p2 p3 p4 q0 q1 q2 cI
      obtain ⟨p0, p1, p2, p3, p4⟩ := bc (fun j u hu => (World.cell?_of_block (HB5.out.block go (by omega))).trans (HPC.out j u hu))
      rw [HEI.out] at p0
      obtain ⟨q0, q1, q2⟩ := own3 ((HB5.out.block w.heap.size (by omega)).trans HGV.out)
      go_wp2_with fail
      refine (HNX.out V1).mono ?_; rintro e V2 ⟨v2, rfl, hrow2, hb6⟩
      obtain ⟨ao2, cap2, rfl⟩ := hrow2.form
      have hc2 := nextF_len bk
      obtain ⟨c2, hcc⟩ : ∃ c, c = (nextF bk).length := ⟨_, rfl⟩
      rw [← hcc] at hc2 ⊢
      have hs6 := hb6.size
      have HC2 := Lib.hid hcc
      have HROW2 := Lib.hid hrow2
      have HB6 := Lib.hid (HB5.out.trans (hb6.mono hs5))
      have HIR2 := Lib.hid ((hb6.block W2.heap.size (by omega)).trans ((HB5.out.block W2.heap.size (by omega)).trans HIR.out))
      clear hrow2 hb6 hcc p0 p1 p2 p3 p4 q0 q1 q2
      go_wp2_with fail
      go_loopw [41] (fun q wr => ∃ i : Nat, i ≤ c2 ∧ q = .int .i64 (i : Int) ∧ Hid (∃ I', wr.heap[W2.heap.size]? = some (.cells (boolA I') 4 (0, 0)) ∧ InsJ g.blocks o k ON ((nextF bk).take i) I' ∧ Wr (fun b => b = W2.heap.size) V2 wr)) (fun q _ => c2 - (intOf q).toNat)
      case atStart => exact ⟨0, Nat.zero_le _, rfl, Lib.hid ⟨I, HIR2.out, ⟨HII.out, fun y h => by simp at h⟩, Wr.refl _ _⟩⟩
      case round =>
        obtain ⟨i, hi, rfl, HR2⟩ := hrel
        obtain ⟨I', hI1, hJ, hwr2⟩ := HR2.out
        have hzr2 := hwr2.size
        by_cases hli : i < c2
        · have hix : i < (nextF bk).length := by rw [← HC2.out]; exact hli
          obtain ⟨gM, offM, rfl, hgm1, hgm2, hcell⟩ := (HROW2.out.keeps hwr2 (fun x hx => by omega)).get rfl hix
          have hyl := HG.out.lt HBT.out (List.getElem_mem hix)
          have htk : (nextF bk).take (i + 1) = (nextF bk).take i ++ [(nextF bk)[i]] := by rw [List.take_succ_eq_append_getElem hix]
          have hym := List.getElem_mem hix
          generalize (nextF bk)[i] = y at hcell hyl htk hym
          obtain ⟨y0, rfl⟩ : ∃ y0 : Nat, y = (y0 : Int) := ⟨y.toNat, by omega⟩
          have hyN : y0 < N := by rw [HN.out]; omega
          obtain ⟨z, hz⟩ : ∃ z, I'[y0]? = some z := ⟨_, List.getElem?_eq_getElem (by rw [hJ.len, ← HN.out]; exact hyN)⟩
          have cI := boolA_at hI1 hz
          have fI := Lib.frozen_of_heap hI1 y0
          have hput := hJ.put HG.out (y := (y0 : Int)) (by rw [Int.toNat_natCast, ← HN.out]; exact hyN) (HTO.out _ hym)
          rw [← htk, Int.toNat_natCast] at hput
          have HQ := Lib.hid (And.intro (boolA_set hI1 y0 ON) (And.intro hput (hwr2.trans (Wr.set (S := fun b => b = W2.heap.size) (i := y0) wr rfl (.bool ON)))))
          clear hI1 hJ hwr2 HR2 hix hyl htk hym hz hput
          go_wp2_with fail
          go_roundw
          case rel => exact ⟨i + 1, by omega, by go_num, Lib.hid ⟨_, HQ.out.1, HQ.out.2.1, HQ.out.2.2⟩⟩
          case measure => simp [intOf]; omega
        · rw [List.take_of_length_le (by rw [← HC2.out]; omega)] at hJ
          have HQ := Lib.hid (And.intro hI1 (And.intro (hJ.next HOK.out HBT.out HG.out HTO.out) ((HWR.out.trans (Wr.of HB6.out)).trans hwr2)))
          clear hI1 hJ hwr2 HR2
          go_wp2_with fail
          go_roundw
          case rel => exact ⟨k + 1, by omega, by go_num, Lib.hid ⟨_, HQ.out.1, HQ.out.2.1, HQ.out.2.2⟩⟩
          case measure => simp [intOf]; omega
    · have hkm : k = m := by omega
      subst hkm
      rw [HM.out] at hII
      have HE := Lib.hid (show InE g.blocks w (.returned (.tuple #[.slice (some ⟨W2.heap.size, 0, none⟩) g.blocks.length g.blocks.length, .int .i64 0])) V from
        ⟨I, _, rfl, by omega, hIr, insP_of HG.out HO.out hII, HB4.out.trans (hwr.below (fun x hx => by omega) (by omega))⟩)
      rw [← HN.out] at HE
      clear hIr hII hwr HR
      go_wp2_with fail
      go_ret2
      exact HE.out
end Go.Proofs.Ytgkjhnghibpeoaa
