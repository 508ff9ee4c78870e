/- The blocks that are reached, in an order. -/
import Derived.Test.YtgkjhnghibpeoaaDoorRows
import Derived.Test.YtgkjhnghibpeoaaDoorFlVisit
import Derived.Laws.EntriesVeiled
import Derived.Test.YtgkjhnghibpeoaaDoorIrLeaf
import Derived.Test.YtgkjhnghibpeoaaDoorIrNew
import Derived.Test.YtgkjhnghibpeoaaDoorParseOrder
import Derived.LoopTactic
import Derived.LoopN
import Derived.Deep.LoopGhost
import Derived.WalkKit
import Derived.WalkSpells
import Derived.WalkLawsBesides
import Derived.Lib.Hide
import Derived.OrdersHeld
import Derived.Deep.RegionHeld
import Derived.Deep.DrawnRows
import Derived.RegionTactic
import Derived.Deep.RegionHeld3
import Derived.IntWalk
import Derived.Deep.QuietTactic
import Derived.BigQuiet
namespace Go.Proofs.YtgkjhnghibpeoaaDoor
open Go.RowKit
set_option maxRecDepth 1000000
attribute [local go_sem ↓] bld_eq bls_eq


theorem alloc7 (w : World) (o0 o1 o2 o3 o4 o5 o6 : Obj) : ∃ W, W = ((((((w.alloc o0).alloc o1).alloc o2).alloc o3).alloc o4).alloc o5).alloc o6 ∧ W.heap.size = w.heap.size + 7 ∧ W.heap[w.heap.size]? = some o0 ∧ W.heap[w.heap.size + 1]? = some o1 ∧ W.heap[w.heap.size + 2]? = some o2 ∧ W.heap[w.heap.size + 3]? = some o3 ∧ W.heap[w.heap.size + 4]? = some o4 ∧ W.heap[w.heap.size + 5]? = some o5 ∧ W.heap[w.heap.size + 6]? = some o6 ∧ Below w.heap.size w W := by
  have nw := fun (u : World) (o : Obj) (n : Nat) (e : u.heap.size = n) => show (u.alloc o).heap[n]? = some o from e ▸ (MapKept.heap_alloc u o).1
  have od := fun (u : World) (o c : Obj) (n : Nat) (h : u.heap[n]? = some c) => show (u.alloc o).heap[n]? = some c from (Below.heap_alloc u o n (Array.getElem?_eq_some_iff.1 h).1).trans h
  have z := fun (u : World) (o : Obj) (n : Nat) (e : u.heap.size = n) => show (u.alloc o).heap.size = n + 1 by simp [e]
  have z1 := z w o0 _ rfl
  have z2 := z _ o1 _ z1
  have z3 := z _ o2 _ z2
  have z4 := z _ o3 _ z3
  have z5 := z _ o4 _ z4
  have z6 := z _ o5 _ z5
  refine ⟨_, rfl, z _ o6 _ z6, ?_, ?_, ?_, ?_, ?_, ?_, nw _ _ _ z6, ?_⟩
  · exact od _ _ _ _ (od _ _ _ _ (od _ _ _ _ (od _ _ _ _ (od _ _ _ _ (od _ _ _ _ (nw w o0 _ rfl))))))
  · exact od _ _ _ _ (od _ _ _ _ (od _ _ _ _ (od _ _ _ _ (od _ _ _ _ (nw _ o1 _ z1)))))
  · exact od _ _ _ _ (od _ _ _ _ (od _ _ _ _ (od _ _ _ _ (nw _ o2 _ z2))))
  · exact od _ _ _ _ (od _ _ _ _ (od _ _ _ _ (nw _ o3 _ z3)))
  · exact od _ _ _ _ (od _ _ _ _ (nw _ o4 _ z4))
  · exact od _ _ _ _ (nw _ o5 _ z5)
  · exact ((((((below_box w _).alloc (by omega) _).alloc (by omega) _).alloc (by omega) _).alloc (by omega) _).alloc (by omega) _).alloc (by omega) _
/-- What ordered answers. -/
def OrdE (bl : List Bk) (w : World) (e : Ending) (w' : World) : Prop := ∃ o v, e = .returned v ∧ OrdP bl o ∧ o.length ≤ bl.length ∧ RowAt w' w.heap.size v (o.map fun (n : Nat) => (n : Int)) ∧ Below w.heap.size w w'
theorem make_bool (n : Nat) (hn : n ≤ 8192) (w : World) : (Instr.makeSlice 22 (.int .i64 (n : Int)) (.int .i64 (n : Int))).run Tryd.prog w = .ok (.slice (some ⟨w.heap.size, 0, none⟩) n n) (w.alloc (.cells (boolA (List.replicate n false)) 4)) := by
  rw [make_list 22 4 (.bool false) 1 (by kernel_rfl) rfl Tryd.underlying22 n hn (by decide)]
  unfold boolA
  rw [List.map_replicate]
theorem make_int (n : Nat) (hn : n ≤ 8192) (w : World) : (Instr.makeSlice 37 (.int .i64 (n : Int)) (.int .i64 (n : Int))).run Tryd.prog w = .ok (.slice (some ⟨w.heap.size, 0, none⟩) n n) (w.alloc (.cells (natA (List.replicate n 0)) 3)) := by
  rw [make_list 37 3 (.int .i64 0) 8 (by kernel_rfl) rfl Tryd.underlying37 n hn (by decide)]
  unfold natA
  rw [List.map_replicate]
  rfl
set_option maxHeartbeats 16000000 in
theorem ordered_any (B : Nat) (g : Gr) (w : World) (hg : FOk g.blocks) (hI : GIn w B g) (hBw : B ≤ w.heap.size) :
    Calls Tryd.prog 44 #[.agg #[g.rv, .int .i64 g.sites, g.bv]] w (OrdE g.blocks w) := by
  obtain ⟨bo, bcp, eb, hbl, -⟩ := hI.blies.form
  obtain ⟨N, hN⟩ : ∃ N, N = g.blocks.length := ⟨_, rfl⟩
  rw [← hN] at eb
  have hn8 : N ≤ 4096 := by rw [hN]; exact hg.room
  have m1 := make_bool N (by omega)
  have m2 := make_int N (by omega)
  have hv := visit_any w.heap.size B g hg hBw (g.blocks.length)
  have HI := Lib.hid hI
  have HG := Lib.hid hg
  have HN := Lib.hid hN
  have HV := Lib.hid hv
  have HEB := Lib.hid eb
  obtain ⟨M1, hM1⟩ : ∃ M, M = boolA (List.replicate N false) := ⟨_, rfl⟩
  obtain ⟨M2, hM2⟩ : ∃ M, M = natA (List.replicate N 0) := ⟨_, rfl⟩
  rw [← hM1] at m1
  rw [← hM2] at m2
  have HM := Lib.hid (And.intro hM1 hM2)
  obtain ⟨rv, hrv⟩ : ∃ x, x = g.rv := ⟨_, rfl⟩
  obtain ⟨st, hst⟩ : ∃ x, x = g.sites := ⟨_, rfl⟩
  have HR := Lib.hid (And.intro hrv hst)
  rw [eb, ← hrv, ← hst]
  obtain ⟨c0, c1, c2⟩ := own3 (MapKept.heap_alloc w (.cells #[rv, .int .i64 st, .slice bo N bcp] 25)).1
  clear hI hg hN hv eb hM1 hM2 hrv hst hbl
  go_enter Tryd.func44, Tryd.ntmps44
  go_wp2_with fail
  clear c0 c1 c2 m1 m2
  have hN := HN.out
  have hR := HR.out
  have hM := HM.out
  have hEB := HEB.out
  subst hN
  obtain ⟨hr1, hr2⟩ := hR
  obtain ⟨hm1, hm2⟩ := hM
  subst hr1 hr2 hm1 hm2
  obtain ⟨W, hW, hz, h0, h1, h2, h3, h4, h5, h6, hbW⟩ := alloc7 w (.cells #[g.rv, .int .i64 g.sites, .slice bo g.blocks.length bcp] 25) (.cells (boolA (List.replicate g.blocks.length false)) 4) (.cells #[.slice (some ⟨w.heap.size + 1, 0, none⟩) g.blocks.length g.blocks.length] 22)
    (.cells (natA (List.replicate g.blocks.length 0)) 3) (.cells #[.slice (some ⟨w.heap.size + 1 + 1 + 1, 0, none⟩) g.blocks.length g.blocks.length] 37) (.cells #[.int .i64 (g.blocks.length : Int)] 3)
    (.cells #[.func (.func 47) #[] #[.pointer (some ⟨w.heap.size + 1 + 1, 0, none⟩), .pointer (some ⟨w.heap.size, 0, none⟩), .pointer (some ⟨w.heap.size + 1 + 1 + 1 + 1 + 1 + 1, 0, none⟩), .pointer (some ⟨w.heap.size + 1 + 1 + 1 + 1 + 1, 0, none⟩), .pointer (some ⟨w.heap.size + 1 + 1 + 1 + 1, 0, none⟩)]] 68)
  rw [← hW]
  rw [← hEB] at h0
  have hVA : VAt W w.heap.size g (List.replicate g.blocks.length false) [] := ⟨h0, h1, h2, by simpa using h3, h4, h5, h6, by simp, by simp⟩
  have hrec := HV.out W 0 (List.replicate g.blocks.length false) [] (by omega) (HI.out.keeps (hbW.mono hBw)) hVA (by rw [List.getElem?_replicate, if_pos HG.out.pos])
  have HB := Lib.hid hbW
  have hzw : w.heap.size + 7 = W.heap.size := hz.symm
  clear hW h0 h1 h2 h3 h4 h5 h6 hVA hbW hEB hz
  refine hrec.mono ?_; rintro e w2 ⟨rfl, pre, m', hp, hva, hwr⟩
  rw [List.append_nil] at hva
  have ovc := one_at hva.ovc
  have fvc := one_at hva.fvc
  have hp0 : 0 < pre.length := (ordP_of hp).pos
  have hpl : pre.length ≤ g.blocks.length := by
    have h1 := hva.cnt
    have h2 := cntT_le m'
    have h3 := hva.len
    omega
  have hrow : RowAt w2 w.heap.size (.slice (some ⟨w.heap.size + 3, g.blocks.length - pre.length, none⟩) pre.length pre.length) (pre.map fun (n : Nat) => (n : Int)) :=
    ⟨_, _, by rw [List.length_map], fun _ => ⟨_, _, rfl, by omega, by have := hva.size; omega, fun k x hx => by
      rw [List.getElem?_map] at hx
      obtain ⟨y, hy, rfl⟩ := Option.map_eq_some_iff.1 hx
      exact natA_at hva.obc (by rw [List.getElem?_append_right (by simp), List.length_replicate, Nat.add_sub_cancel_left]; exact hy)⟩⟩
  have HE := Lib.hid (show OrdE g.blocks w (.returned (.slice (some ⟨w.heap.size + 3, g.blocks.length - pre.length, none⟩) pre.length pre.length)) w2 from
    ⟨pre, _, rfl, ordP_of hp, hpl, hrow, HB.out.trans (hwr.below (fun x hx => by rcases hx with rfl | rfl | rfl <;> omega) (by omega))⟩)
  obtain ⟨F, hF⟩ : ∃ F, F = g.blocks.length - pre.length := ⟨_, rfl⟩
  have hF1 : g.blocks.length - F = pre.length := by omega
  obtain ⟨N, hN⟩ : ∃ N, N = g.blocks.length := ⟨_, rfl⟩
  rw [← hF] at fvc HE
  rw [← hN] at hF1 ovc hn8
  have hFN : F < N := by omega
  have HNN := Lib.hid hN
  clear hrec hp hva hwr hrow hpl hF hN
  go_wp2_with fail
  go_ret
  exact HE.out
end Go.Proofs.YtgkjhnghibpeoaaDoor
namespace Go.Proofs.YtgkjhnghibpeoaaDoor
open Go.RowKit
set_option maxRecDepth 1000000
attribute [local go_sem ↓] bld_eq bls_eq


/-- What reached answers. -/
def ReE (bl : List Bk) (w : World) (e : Ending) (w' : World) : Prop := ∃ R gR, e = .returned (.slice (some ⟨gR, 0, none⟩) bl.length bl.length) ∧ w.heap.size ≤ gR ∧ w'.heap[gR]? = some (.cells (boolA R) 4 (0, 0)) ∧ R.length = bl.length ∧ (∀ x, bitAt R x = true ↔ Rc bl x) ∧ Below w.heap.size w w'
theorem alloc2 (w : World) (o0 o1 : Obj) : ∃ W, W = (w.alloc o0).alloc o1 ∧ W.heap.size = w.heap.size + 2 ∧ W.heap[w.heap.size]? = some o0 ∧ W.heap[w.heap.size + 1]? = some o1 ∧ Below w.heap.size w W := by
  have z1 : (w.alloc o0).heap.size = w.heap.size + 1 := by simp
  refine ⟨_, rfl, by simp, (Below.heap_alloc (w.alloc o0) o1 _ (by omega)).trans (MapKept.heap_alloc w o0).1, ?_, (below_box w _).alloc (by omega) _⟩
  rw [← z1]; exact (MapKept.heap_alloc _ o1).1
theorem take_mem {o : List Nat} {k y x : Nat} (hy : o[k]? = some y) : x ∈ o.take (k + 1) ↔ x ∈ o.take k ∨ x = y := by
  rw [List.take_add_one, hy]; simp
set_option maxHeartbeats 16000000 in
theorem reached_any (B : Nat) (g : Gr) (w : World) (hg : FOk g.blocks) (hI : GIn w B g) (hBw : B ≤ w.heap.size) :
    Calls Tryd.prog 38 #[.agg #[g.rv, .int .i64 g.sites, g.bv]] w (ReE g.blocks w) := by
  obtain ⟨bo, bcp, eb, hbl, hbg⟩ := hI.blies.form
  obtain ⟨N, hN⟩ : ∃ N, N = g.blocks.length := ⟨_, rfl⟩
  rw [← hN] at eb hbg
  have hn8 : N ≤ 4096 := by rw [hN]; exact hg.room
  have HI := Lib.hid hI
  have HG := Lib.hid hg
  have HN := Lib.hid hN
  have HEB := Lib.hid eb
  obtain ⟨rv, hrv⟩ : ∃ x, x = g.rv := ⟨_, rfl⟩
  obtain ⟨st, hst⟩ : ∃ x, x = g.sites := ⟨_, rfl⟩
  have HRR := Lib.hid (And.intro hrv hst)
  rw [eb, ← hrv, ← hst]
  obtain ⟨q0, q1, q2⟩ := own3 (MapKept.heap_alloc w (.cells #[rv, .int .i64 st, .slice bo N bcp] 25)).1
  have m1 := make_bool N (by omega)
  obtain ⟨M1, hM1⟩ : ∃ M, M = boolA (List.replicate N false) := ⟨_, rfl⟩
  rw [← hM1] at m1
  obtain ⟨W, hW, hz, h0, h1, hbW⟩ := alloc2 w (.cells #[rv, .int .i64 st, .slice bo N bcp] 25) (.cells M1 4)
  have hor := ordered_any B g W hg (hI.keeps (hbW.mono hBw)) (by omega)
  rw [eb, ← hrv, ← hst] at hor
  have HOR := Lib.hid hor
  rw [hM1] at h1
  have H1 := Lib.hid h1
  have HW := Lib.hid hW
  have HB := Lib.hid hbW
  have HM := Lib.hid hM1
  have hzW : w.heap.size + 2 = W.heap.size := hz.symm
  unfold ReE
  rw [← hN]
  clear hI hg hN eb hM1 hrv hst hbl hW hz h0 h1 hbW hor
  go_enter Tryd.func38, Tryd.ntmps38
  go_wp2_with fail
  rw [← HW.out]
  clear q0 q1 q2
  refine HOR.out.mono ?_; rintro e w3 ⟨o, v, rfl, ho, hol, hrow, hb3⟩
  obtain ⟨ao, cap, rfl⟩ := hrow.form
  have hol2 : g.blocks.length ≤ 4096 := HG.out.room
  rw [List.length_map]
  obtain ⟨c, hc⟩ : ∃ c, c = o.length := ⟨_, rfl⟩
  rw [← hc] at hol ⊢
  have HC := Lib.hid hc
  have HO := Lib.hid ho
  have HROW := Lib.hid hrow
  have HB3 := Lib.hid (HB.out.trans (hb3.mono (by omega)))
  have H3 := Lib.hid ((hb3.block _ (by omega)).trans H1.out)
  have hs3 := hb3.size
  have hol3 : c ≤ 4096 := by omega
  clear hc ho hrow hb3 hol hol2
  go_wp2_with fail
  go_loopw [13] (fun q wr => ∃ k : Nat, k ≤ c ∧ q = .int .i64 (k : Int) ∧ Hid (∃ R, wr.heap[w.heap.size + 1]? = some (.cells (boolA R) 4 (0, 0)) ∧ R.length = N ∧ (∀ x, bitAt R x = true ↔ x ∈ o.take k) ∧ Wr (fun b => b = w.heap.size + 1) w3 wr)) (fun q _ => c - (intOf q).toNat)
  case atStart => exact ⟨0, Nat.zero_le _, rfl, Lib.hid ⟨_, H3.out, by simp, fun x => by rw [bitAt_new]; simp, Wr.refl _ _⟩⟩
  case round =>
    obtain ⟨k, hk, rfl, HR⟩ := hrel
    obtain ⟨R, hR, hRl, hRm, hwr⟩ := HR.out
    have hzr := hwr.size
    by_cases hlk : k < c
    · have hkx : k < o.length := by rw [← HC.out]; exact hlk
      obtain ⟨gN, offN, rfl, hg1, hg2, hcell⟩ := (HROW.out.keeps hwr (fun x hx => by omega)).get rfl (k := k) (by simpa using hkx)
      rw [List.getElem_map] at hcell
      have hok : o[k]? = some o[k] := List.getElem?_eq_getElem hkx
      generalize o[k] = y at hcell hok
      have hyN : y < N := by rw [HN.out]; exact HO.out.lt HG.out hok
      obtain ⟨bv, hbv⟩ : ∃ bv, R[y]? = some bv := ⟨_, List.getElem?_eq_getElem (by rw [hRl]; exact hyN)⟩
      have c1 := boolA_at hR hbv
      have f1 := Lib.frozen_of_heap hR y
      have HX := Lib.hid (show ∃ R', (wr.setCell ⟨w.heap.size + 1, y, none⟩ (.bool true)).heap[w.heap.size + 1]? = some (.cells (boolA R') 4 (0, 0)) ∧ R'.length = N ∧ (∀ x, bitAt R' x = true ↔ x ∈ o.take (k + 1)) ∧ Wr (fun b => b = w.heap.size + 1) w3 (wr.setCell ⟨w.heap.size + 1, y, none⟩ (.bool true)) from
        ⟨R.set y true, boolA_set hR y true, by simpa using hRl, fun x => by rw [bitAt_put _ _ _ (by rw [hRl]; exact hyN), take_mem hok]; simp [hRm, or_comm], hwr.trans (Wr.set (S := fun b => b = w.heap.size + 1) wr rfl _)⟩)
      clear hR hRl hRm hwr hbv hok hkx HR
      go_wp2_with fail
      go_roundw
      case rel => exact ⟨k + 1, by omega, by go_num, HX⟩
      case measure => simp [intOf]; omega
    · rw [List.take_of_length_le (by rw [← HC.out]; omega)] at hRm
      have HE := Lib.hid (show ∃ R gR, Ending.returned (.slice (some ⟨w.heap.size + 1, 0, none⟩) N N) = .returned (.slice (some ⟨gR, 0, none⟩) N N) ∧ w.heap.size ≤ gR ∧ wr.heap[gR]? = some (.cells (boolA R) 4 (0, 0)) ∧ R.length = N ∧ (∀ x, bitAt R x = true ↔ Rc g.blocks x) ∧ Below w.heap.size w wr from
        ⟨R, _, rfl, by omega, hR, hRl, fun x => (hRm x).trans (HO.out.mem x), HB3.out.trans (hwr.below (fun x hx => by omega) (by omega))⟩)
      clear hR hRl hRm hwr HR
      go_wp2_with fail
      go_ret
      exact HE.out
end Go.Proofs.YtgkjhnghibpeoaaDoor
