/- A block is settled, behind those to which it leads. -/
import Derived.Test.YtgkjhnghibpeoaaDoorRows
import Derived.Test.YtgkjhnghibpeoaaDoorLvState
import Derived.Test.YtgkjhnghibpeoaaDoorIrLeaf
import Derived.Test.YtgkjhnghibpeoaaDoorIrNew
import Derived.Test.YtgkjhnghibpeoaaDoorParseOrder
import Derived.LoopTactic
import Derived.LoopN
import Derived.Deep.LoopGhost
import Derived.WalkKit
import Derived.WalkSpells
import Derived.WalkLawsBesides
import Derived.Lib.Hide
import Derived.OrdersHeld
import Derived.Deep.RegionHeld
import Derived.Deep.DrawnRows
import Derived.RegionTactic
import Derived.Deep.RegionHeld3
import Derived.IntWalk
import Derived.Deep.QuietTactic
import Derived.BigQuiet
namespace Go.Proofs.YtgkjhnghibpeoaaDoor
open Go.RowKit
set_option maxRecDepth 1000000
attribute [local go_sem ↓] bld_eq bls_eq


/-- What settle leaves. -/
def StE (b : Nat) (g : Gr) (M : List Bool) (dn : Nat → Prop) (vs : List Value) (n : Nat) (w : World) (e : Ending) (w' : World) : Prop :=
  e = .returned (.tuple #[]) ∧ ∃ S' D' A' M' vs' dn', Stl b g M dn vs w w' S' D' A' M' vs' dn' ∧ M'[n]? = some true
set_option maxHeartbeats 32000000 in
theorem settle_any (b R B : Nat) (g : Gr) (hg : GLv R B g) (hBb : B ≤ b) : ∀ (K : Nat) (n : Nat) (S : List (List Nat)) (D : List Dd) (A : List (List Nat)) (M : List Bool) (vs : List Value) (dn : Nat → Prop) (w : World), g.blocks.length - cntT M = K → BM w b g S D A M vs → SetP g.blocks M dn S D A → GIn w B g → M[n]? = some false →
    Calls Tryd.prog 29 #[.int .i64 (n : Int), .pointer (some ⟨b + 9, 0, none⟩), .pointer (some ⟨b, 0, none⟩), .pointer (some ⟨b + 10, 0, none⟩), .pointer (some ⟨b + 2, 0, none⟩), .pointer (some ⟨b + 6, 0, none⟩), .pointer (some ⟨b + 4, 0, none⟩), .pointer (some ⟨b + 7, 0, none⟩)] w (StE b g M dn vs n w) := by
  intro K
  induction K using Nat.strongRecOn with
  | ind K ih =>
  intro n S D A M vs dn w hK hB hP hI hn
  have hbs := hB.size
  obtain ⟨N, hN⟩ : ∃ N, N = g.blocks.length := ⟨_, rfl⟩
  have hnN : n < N := by rw [hN, ← hP.ml]; exact (List.getElem?_eq_some_iff.1 hn).1
  have hnN0 : (n : Int) < (N : Int) := by omega
  have hN4 : N ≤ 4096 := by rw [hN]; exact hg.fok.room
  obtain ⟨bk, hbk⟩ : ∃ bk, g.blocks[n]? = some bk := ⟨_, List.getElem?_eq_getElem (by rw [← hN]; exact hnN)⟩
  have hbm := List.mem_of_getElem? hbk
  obtain ⟨w1, hw1⟩ : ∃ w1, w1 = w.setCell ⟨b + 8, n, none⟩ (.bool true) := ⟨_, rfl⟩
  have hB1 : BM w1 b g S D A (M.set n true) vs := by rw [hw1]; exact hB.setM n
  have hz1 : w1.heap.size = w.heap.size := by rw [hw1]; exact size_set _ _ _
  have hwr1 : Wr (SX b vs) w w1 := by rw [hw1]; exact Wr.set w (.inr (.inr (.inr (.inl rfl)))) _
  obtain ⟨go, off, bcap, egv, hgo, hp⟩ := blk_at hI hbk
  have hb1 : Below B w w1 := by rw [hw1]; exact (Below.refl _ w).setCell (by dsimp only; omega) _
  obtain ⟨p0, p1, p2, p3, p4⟩ := hp w1 hb1
  have gq := (own3 hB1.gbc).2.2
  rw [egv, ← hN] at gq
  have cmv := one_at hB.mvc
  rw [← hN] at cmv
  have cm := boolA_at hB.mbc hn
  have fm := Lib.frozen_of_heap hB.mbc n
  have hlen := hP.ml
  have HNX := Lib.hid (fun W => vnext_any bk W (by obtain ⟨q, c, e, _⟩ := (hI.blocks bk hbm).lies.form; exact ⟨q, _, c, e⟩))
  have HK := Lib.hid hK
  have HIH := Lib.hid ih
  have HW1 := Lib.hid hw1
  have HB := Lib.hid hB
  have HP := Lib.hid hP
  have HI := Lib.hid hI
  have HN := Lib.hid hN
  have HMn := Lib.hid hn
  have HBK := Lib.hid hbk
  have HB1 := Lib.hid hB1
  have HP1 := Lib.hid (hP.more n)
  have HWR1 := Lib.hid hwr1
  have HBL1 := Lib.hid hb1
  have HBF := Lib.hid hp
  have HG := Lib.hid hg
  have HEG := Lib.hid egv
  have hml : M.length = N := by rw [hlen, ← hN]
  clear hK ih hB hP hI hN hn hbk hB1 hwr1 hb1 hp hbm hw1 hg hlen egv
  go_enter Tryd.func29, Tryd.ntmps29
  go_wp2_with (rw [← HW1.out])
  refine (HNX.out _).mono ?_; rintro e w2 ⟨v2, rfl, hrow2, hb2⟩
  obtain ⟨ao2, cap2, rfl⟩ := hrow2.form
  have hc2 := nextF_len bk
  obtain ⟨c2, hcc⟩ : ∃ c, c = (nextF bk).length := ⟨_, rfl⟩
  rw [← hcc] at hc2 ⊢
  have hs2 := hb2.size
  have HC2 := Lib.hid hcc
  have HROW2 := Lib.hid hrow2
  have HB2 := Lib.hid hb2
  have HST2 := Lib.hid (show Stl b g (M.set n true) dn vs w2 w2 S D A (M.set n true) vs dn from Stl.refl (HB1.out.keeps hb2) HP1.out)
  have HWR2 := Lib.hid (show Wr (SX b vs) w w2 from HWR1.out.trans (Wr.of hb2))
  have HSXB := Lib.hid (show ∀ x, SX b vs x → B ≤ x ∧ x < w.heap.size from fun x hx => by
    rcases hx with q | q | q | q | q
    · omega
    · omega
    · omega
    · omega
    · have := HB.out.rowlt q; omega)
  clear hrow2 hb2 hcc p0 p1 p2 p3 p4 gq cmv cm fm
  go_wp2_with fail
  go_loopw [24] (fun q wr => ∃ k : Nat, k ≤ c2 ∧ q = .int .i64 (k : Int) ∧ Hid (∃ S' D' A' M' vs' dn', Stl b g (M.set n true) dn vs w2 wr S' D' A' M' vs' dn')) (fun q _ => c2 - (intOf q).toNat)
  case atStart => exact ⟨0, Nat.zero_le _, rfl, Lib.hid ⟨_, _, _, _, _, _, HST2.out⟩⟩
  case round => as_aux_lemma =>
    obtain ⟨k, hk, rfl, HM⟩ := hrel
    rename World => V
    obtain ⟨S', D', A', M', vs', dn', hst⟩ := HM.out
    have hzV := hst.wr.size
    have hwrV : Wr (SX b vs) w V := HWR2.out.trans hst.wr
    have hBV : Below B w V := hwrV.below (fun x hx => (HSXB.out x hx).1) (by omega)
    by_cases hkc : k = c2
    · have hzB := hst.bm.size
      obtain ⟨gB, hgB⟩ : ∃ gB, gB = V.heap.size := ⟨_, rfl⟩
      obtain ⟨W7, hW7⟩ : ∃ W7, W7 = V.alloc (.cells #[.int .u64 0, .int .u64 0, .int .u64 0, .int .u64 0, .int .u64 0, .int .u64 0, .int .u64 0, .int .u64 0, .int .u64 0, .int .u64 0, .int .u64 0, .int .u64 0, .int .u64 0, .int .u64 0, .int .u64 0, .int .u64 0] 58) := ⟨_, rfl⟩
      have hb7 : Below V.heap.size V W7 := by rw [hW7]; exact below_box V _
      have hz7 : W7.heap.size = gB + 1 := by rw [hW7, hgB]; simp
      have hq7 : W7.heap[gB]? = some (.cells (u64A emptyS) 58 (0, 0)) := by rw [hW7, hgB]; exact (MapKept.heap_alloc _ _).1
      have hBW7 := hBV.trans (hb7.mono (by omega))
      obtain ⟨p0, p1, p2, p3, p4⟩ := HBF.out W7 hBW7
      have hbm7 := hst.bm.keeps hb7
      have gq := (own3 hbm7.gbc).2.2
      rw [HEG.out, ← HN.out] at gq
      have HST := Lib.hid hst
      have HWRV := Lib.hid hwrV
      have HBM7 := Lib.hid hbm7
      have HQ7 := Lib.hid hq7
      have HW7 := Lib.hid hW7
      have HB7 := Lib.hid hb7
      have HGB := Lib.hid hgB
      have hgB1 : gB ≤ V.heap.size := by omega
      have hgB2 : V.heap.size ≤ gB := by omega
      have HRL := Lib.hid (show ∀ x, RowB vs' x → b + 11 ≤ x ∧ x < gB from fun x hx => by have := hst.bm.rowlt hx; omega)
      clear hst hwrV hBV hW7 hb7 hq7 hBW7 hbm7 hgB HM
      subst hkc
      go_wp2_with (rw [← HW7.out])
      rw [← HGB.out]
      refine (HNX.out _).mono ?_; rintro e w8 ⟨v8, rfl, hrow8, hb8⟩
      obtain ⟨ao8, cap8, rfl⟩ := hrow8.form
      rw [← HC2.out]
      have hs8 := hb8.size
      have HROW8 := Lib.hid hrow8
      have HB8 := Lib.hid hb8
      have HBM8 := Lib.hid (HBM7.out.keeps hb8)
      have HQ8 := Lib.hid ((hb8.block gB (by omega)).trans HQ7.out)
      clear hrow8 hb8 p0 p1 p2 p3 p4 gq
      go_wp2_with fail
      go_loopw [44] (fun q wr => ∃ j : Nat, j ≤ k ∧ q = .int .i64 (j : Int) ∧ Hid (∃ vs2 A2, BM wr b g S' D' A2 M' vs2 ∧ A2 = pushA A' n ((nextF bk).take j) ∧ wr.heap[gB]? = some (.cells (u64A (behS S' ((nextF bk).take j))) 58 (0, 0)) ∧ Wr (fun x => SX b vs' x ∨ x = gB) w8 wr ∧ (∀ x, RowB vs2 x → RowB vs' x ∨ w8.heap.size ≤ x))) (fun q _ => k - (intOf q).toNat)
      case atStart => exact ⟨0, Nat.zero_le _, rfl, Lib.hid ⟨vs', A', HBM8.out, rfl, HQ8.out, Wr.refl _ _, fun x q => .inl q⟩⟩
      case round => as_aux_lemma =>
        obtain ⟨j, hj, rfl, HJ⟩ := hrel
        rename World => Z
        obtain ⟨vs2, A2, j1, j2, j3, j4, j5⟩ := HJ.out
        have hzZ := j4.size
        by_cases hjc : j = k
        · have hfull : (nextF bk).take j = nextF bk := List.take_of_length_le (by rw [hjc, HC2.out]; exact Nat.le_refl _)
          rw [hfull] at j2 j3
          subst hjc
          have hbs2 := j1.size
          have hBZ : Below B w Z := by
            have h1 : Wr (SX b vs) w w8 := HWRV.out.trans ((Wr.of HB7.out).trans (Wr.of HB8.out))
            have h2 : Below B w w8 := h1.below (fun x hx => (HSXB.out x hx).1) (by omega)
            exact h2.trans (j4.below (fun x hx => by
              rcases hx with (q | q | q | q | q) | q
              · omega
              · omega
              · omega
              · omega
              · have := HRL.out x q; omega
              · omega) (by have := h2.size; omega))
          obtain ⟨p0, p1, p2, p3, p4⟩ := HBF.out Z hBZ
          have gq := (own3 j1.gbc).2.2
          rw [HEG.out, ← HN.out] at gq
          have cdv := one_at j1.dvc
          rw [← HN.out] at cdv
          have hbkm := List.mem_of_getElem? HBK.out
          have hbin := HI.out.blocks bk hbkm
          have HDF := Lib.hid (fun (W : World) (hW : Below B w W) => deed_from_any R B HG.out.reg bk 0 W (hbin.keeps hW) (by have := hW.size; omega) (HG.out.fit bk hbkm) (HG.out.cap bk hbkm) (Nat.zero_le _) (HG.out.ins bk hbkm))
          have hdo := deedF_ok bk 0
          have hob := beh_ok HST.out.sp.ok (nextF bk)
          have hnD : n < D'.length := by rw [j1.dl, ← HN.out]; exact hnN
          have HBZ := Lib.hid hBZ
          have HJ1 := Lib.hid j1
          have HJ2 := Lib.hid j2
          have HJ3 := Lib.hid j3
          have HJ4 := Lib.hid j4
          have HJ5 := Lib.hid j5
          have HDO := Lib.hid hdo
          have HOB := Lib.hid hob
          have HND := Lib.hid hnD
          clear j1 j2 j3 j4 j5 hBZ hbin hdo hob hnD HJ hfull
          go_wp2_with fail
          refine wp_region_late (S := SameX (fun _ => False) Z.heap.size Z) (fun j => decide (9 ≤ j)) (by kernel_rfl) (SameX.drew _ _ _) (fun hSw => ?_)
          refine lG 0 (.slice (some ⟨b + 3, 0, none⟩) N N) hSw (fun V hV => ?_) ?_
          · have c := hV.cell (by dsimp only; omega) id cdv
            first | (go_simp; done) | rfl
          try simp only [nS]
          refine lH 1 (.int .i64 (n : Int)) hSw ?_
          try simp only [nS]
          refine lH 2 (.pointer (some ⟨b, 2, none⟩)) hSw ?_
          try simp only [nS]
          refine lG 3 (.slice (some ⟨go, off, none⟩) N bcap) hSw (fun V hV => ?_) ?_
          · have c := hV.cell (by dsimp only; omega) id gq
            first | (go_simp; done) | rfl
          try simp only [nS]
          refine lH 4 (.int .i64 (n : Int)) hSw ?_
          try simp only [nS]
          refine lG 5 (.pointer (some ⟨go, off + n * 5, none⟩)) hSw (fun V hV => ?_) ?_
          · first | (go_simp; done) | (go_simp; omega) | rfl
          try simp only [nS]
          refine lG 6 (.agg #[bk.iv, .int .u8 bk.last, .int .i64 bk.reg, .int .i64 bk.yes, .int .i64 bk.no]) hSw (fun V hV => ?_) ?_
          · have p0 := hV.cell (by dsimp only; omega) id p0
            have p1 := hV.cell (by dsimp only; omega) id p1
            have p2 := hV.cell (by dsimp only; omega) id p2
            have p3 := hV.cell (by dsimp only; omega) id p3
            have p4 := hV.cell (by dsimp only; omega) id p4
            first | (go_simp; done) | rfl
          try simp only [nS]
          refine lR 7 (fun K hK => ?_)
          clear hSw
          go_simp
          refine (HDF.out _ HBZ.out.drew).mono ?_; rintro e Z1 ⟨rfl, hb1⟩
          have hb1' : Below Z.heap.size Z Z1 := ⟨hb1.os, hb1.tape, hb1.output, hb1.size, hb1.block⟩
          have hs1 := hb1'.size
          have HZ1 := Lib.hid hb1'
          clear hb1 hb1'
          refine hK.out _ _ (fun k hk _ => HZ1.out.block k (by omega)) (fun hSw => ?_)
          clear hK K
          try simp only [nS]
          refine lG 8 (.pointer (some ⟨b + 3, n * 32, none⟩)) hSw (fun V hV => ?_) ?_
          · first | (go_simp; done) | (go_simp; omega) | rfl
          try simp only [nS]
          obtain ⟨dd, hdd⟩ : ∃ x, x = deedF bk 0 := ⟨_, rfl⟩
          rw [← hdd] at HDO ⊢
          have HDD := Lib.hid hdd
          clear hdd
          refine wpAnyL_only (rs := [9]) (by kernel_rfl) (by simp) (by rfl) ?_
          refine oR 9 (fun J hK => ?_)
          have hl32 : (dd.1 ++ dd.2).length = 32 := by rw [List.length_append, HDO.out.a.len, HDO.out.c.len]
          have hfl : (flatD D').length = D'.length * 32 := by
            have := flat_len (W := 32) (D'.map fun d => d.1 ++ d.2) (all32D HJ1.out.dok)
            rw [List.length_map] at this
            exact this
          have hnl := HND.out
          refine wp_put_at 67 (Operand.tmp 73) (Operand.tmp 72) rfl (b + 3) (n * 32) 67 (u64A (flatD D')) (u64A (dd.1 ++ dd.2)) (u64A (flatD (D'.set n dd))) rfl rfl ((HZ1.out.block _ (by omega)).trans HJ1.out.dbc) (by rw [u64A_size, u64A_size, hl32, hfl]; omega) (by rw [u64A_size, hl32]; kernel_rfl) (u64A_one _) (by
            rw [← u64A_put _ _ _ (by rw [hl32, hfl]; omega), hl32]
            unfold flatD
            rw [List.map_set, flat_set (all32D HJ1.out.dok) (by rw [List.getElem?_map, get_atD HND.out]; rfl) hl32]) ?_
          intro Z2 hp2
          have hz2 : Z1.heap.size ≤ Z2.heap.size := by have := hp2.size; omega
          have hw2 : Wr (fun x => x = b + 3) Z1 Z2 := ⟨hp2.os, hp2.tape, hp2.output, hz2, fun k _ hk => hp2.rest k hk⟩
          have hbm2 : BM Z2 b g S' (D'.set n dd) A2 M' vs2 := (HJ1.out.keeps HZ1.out).setD hw2 hp2.at_b (by simp) (fun d hd => by
            rcases List.mem_or_eq_of_mem_set hd with q | q
            · exact HJ1.out.dok d q
            · rw [q]; exact HDO.out)
          have HZW := Lib.hid (show Wr (fun x => SX b vs' x ∨ x = gB) w8 Z2 from HJ4.out.trans ((Wr.of HZ1.out).trans (hw2.mono (fun x q => .inl (.inr (.inl q))))))
          have HZB := Lib.hid (show Z2.heap[gB]? = some (.cells (u64A (behS S' (nextF bk))) 58 (0, 0)) from (hp2.rest gB (by omega)).trans ((HZ1.out.block gB (by omega)).trans HJ3.out))
          have hgz : gB < Z2.heap.size := by omega
          refine hK.out _ _ ?_
          clear hK J hp2 hw2 hfl hl32 hnl cdv gq p0 p1 p2 p3 p4
          try simp only [nS]
          refine wpAny_done (by kernel_rfl) ?_ _
          obtain ⟨BE, hBE⟩ : ∃ x, x = behS S' (nextF bk) := ⟨_, rfl⟩
          rw [← hBE] at HOB HZB
          have HBE := Lib.hid hBE
          have hat : atD (D'.set n dd) n = dd := by rw [atD_set HND.out, if_pos rfl]
          have HAT := Lib.hid hat
          have HCA := Lib.hid (fun W => ahead_set_any dd BE W HDO.out HOB.out)
          have hol := ahead_ok HDO.out HOB.out
          have HGR := Lib.hid (fun (W : World) (h : BM W b g S' (D'.set n dd) A2 M' vs2) => grow_any b g (D'.set n dd) A2 M' vs2 (fun m f hf => by
            rw [HJ2.out] at hf
            rcases (pushA_mem n (nextF bk) A' (fun y hy => by rw [HST.out.sp.al]; exact HG.out.fok.lt HBK.out hy) m f).1 hf with q | ⟨q, _⟩
            · exact (HST.out.sp.rows m).1 f q
            · rw [q, ← HN.out]; exact hnN) HG.out.fok.room (leftAll S') S' n (aheadS dd BE) W rfl h (by rw [← HN.out]; exact hnN) hol)
          have HBM2 := Lib.hid hbm2
          have cgv := one_at hbm2.gvc
          have cdv := one_at hbm2.dvc
          rw [← HN.out] at cdv
          have hbs3 := hbm2.size
          clear hBE hat hol hbm2
          go_wp2_with fail
          refine wp_region_held_drew (S := SameX (fun x => x = b + 1) Z2.heap.size Z2) (by kernel_rfl) (SameX.drew _ _ _) (fun hSw => ?_)
          refine tG 0 (.func (.func 26) #[] #[.pointer (some ⟨b + 2, 0, none⟩), .pointer (some ⟨b + 6, 0, none⟩), .pointer (some ⟨b + 7, 0, none⟩), .pointer (some ⟨b + 4, 0, none⟩)]) hSw (fun V hV => ?_) ?_
          · have c := hV.cell (by dsimp only; omega) (by dsimp only; omega) cgv
            first | (go_simp; done) | rfl
          try simp only [nS]
          refine tH 1 (.int .i64 (n : Int)) hSw ?_
          try simp only [nS]
          refine tG 2 (.slice (some ⟨b + 3, 0, none⟩) N N) hSw (fun V hV => ?_) ?_
          · have c := hV.cell (by dsimp only; omega) (by dsimp only; omega) cdv
            first | (go_simp; done) | rfl
          try simp only [nS]
          refine tH 3 (.int .i64 (n : Int)) hSw ?_
          try simp only [nS]
          refine tG 4 (.pointer (some ⟨b + 3, 0 + n * 32, none⟩)) hSw (fun V hV => ?_) ?_
          · first | (go_simp; done) | (go_simp; omega) | rfl
          try simp only [nS]
          refine tG 5 (deedV dd) hSw (fun V hV => exec_deed (b + 3) (0 + n * 32) (flatD (D'.set n dd)) dd 67 (0, 0) rfl (hV.row (by omega) (by omega) HBM2.out.dbc) (by have h := HBM2.out.deed32 (n := n) (by rw [List.length_set]; exact HND.out); rw [HAT.out] at h; exact h) HDO.out) ?_
          try simp only [nS]
          refine tG 6 (setV BE) hSw (fun V hV => exec_set gB 0 BE BE 58 (0, 0) rfl (hV.row (by omega) (by omega) HZB.out) (all16 HOB.out.len) HOB.out.len) ?_
          try simp only [nS]
          refine tR 7 (fun K hK => ?_)
          clear hSw
          go_simp
          refine (HCA.out _).mono ?_; rintro e Z3 ⟨rfl, hb3⟩
          have hb3' : Below Z2.heap.size Z2 Z3 := ⟨hb3.os, hb3.tape, hb3.output, hb3.size, hb3.block⟩
          have hs3 := hb3'.size
          have HZ3 := Lib.hid hb3'
          clear hb3 hb3'
          refine hK.out _ _ (fun k hk _ => HZ3.out.block k (by omega)) (fun hSw => ?_)
          clear hK K
          try simp only [nS]
          refine tR 8 (fun K hK => ?_)
          clear hSw
          go_simp
          refine (HGR.out _ (HBM2.out.keeps HZ3.out)).mono ?_
          rintro e Z4 ⟨rfl, S9, n1, n2, n3⟩
          have HFIN := Lib.hid (show StE b g M dn vs n w (.returned (.tuple #[])) Z4 from by
            have hM1 : (M.set n true)[n]? = some true := by rw [List.getElem?_set, if_pos rfl, if_pos (by rw [hml]; exact hnN)]
            have hMM : ∀ m : Nat, M[m]? = some true → (M.set n true)[m]? = some true := fun m q => by
              rw [List.getElem?_set]
              by_cases e : n = m
              · subst e; rw [if_pos rfl, if_pos (by rw [hml]; exact hnN)]
              · rw [if_neg e]; exact q
            have hMn := HST.out.mm n hM1
            have hnd : ¬ dn' n := fun q => by
              rcases HST.out.nw n q with p | p
              · have := HP.out.met n p
                rw [HMn.out] at this; cases this
              · exact p hM1
            rw [HDD.out, HBE.out, HJ2.out] at n2
            have hgr := HST.out.sp.settle HG.out.fok HBK.out hnd hMn (vnext_nodup bk) n2
            rw [HDD.out, HJ2.out] at n1
            have hk : Wr (fun x => SX b vs' x ∨ x = gB) V Z4 := (Wr.of HB7.out).trans ((Wr.of HB8.out).trans (HZW.out.trans ((Wr.of HZ3.out).trans (n3.mono (fun x q => .inl (.inl q))))))
            refine ⟨rfl, S9, D'.set n (deedF bk 0), pushA A' n (nextF bk), M', vs2, fun m => dn' m ∨ m = n, ⟨n1, hgr, fun m q => .inl (HST.out.dm m q), fun m q => HST.out.mm m (hMM m q), fun m q => ?_, fun m q => ?_, HWRV.out.comp hk (fun x hx q => ?_), fun x q => ?_⟩, hMn⟩
            · rcases HST.out.new m q with p | p
              · by_cases e : n = m
                · exact .inr (.inr e.symm)
                · rw [List.getElem?_set, if_neg e] at p; exact .inl p
              · exact .inr (.inl p)
            · rcases q with q | q
              · rcases HST.out.nw m q with p | p
                · exact .inl p
                · exact .inr (fun r => p (hMM m r))
              · subst q
                exact .inr (by rw [HMn.out]; simp)
            · rcases q with (q | q | q | q | q) | q
              · exact .inl q
              · exact .inr (.inl q)
              · exact .inr (.inr (.inl q))
              · exact .inr (.inr (.inr (.inl q)))
              · rcases HST.out.rb x q with p | p
                · exact .inr (.inr (.inr (.inr p)))
                · omega
              · omega
            · rcases HJ5.out x q with p | p
              · rcases HST.out.rb x p with r | r
                · exact .inl r
                · exact .inr (by omega)
              · exact .inr (by omega))
          refine hK.out _ _ (fun k hk hne => (n3.block k (by omega) hne).trans (HZ3.out.block k (by omega))) (fun hSw => ?_)
          clear hK K n1 n2 n3
          try simp only [nS]
          refine wpAnyH_done (by kernel_rfl) ?_ _
          go_wp2_with fail
          go_end0
          exact HFIN.out
        · have hjl : j < k := by omega
          have hix : j < (nextF bk).length := by rw [← HC2.out]; exact hjl
          obtain ⟨gM, offM, rfl, hgm1, hgm2, hcell⟩ := (HROW8.out.keeps j4 (fun x hx => by
            rcases hx with (q | q | q | q | q) | q
            · omega
            · omega
            · omega
            · omega
            · have := HRL.out x q; omega
            · omega)).get rfl hix
          have hyl := HG.out.fok.lt HBK.out (List.getElem_mem hix)
          have hget : (nextF bk)[j]? = some (nextF bk)[j] := List.getElem?_eq_getElem hix
          have hnd : (nextF bk)[j] ∉ (nextF bk).take j := fun hh => by
            obtain ⟨i, hi⟩ := List.mem_iff_getElem?.1 hh
            rw [List.getElem?_take] at hi
            split at hi
            · rename_i hij
              have hi2 := (List.getElem?_eq_some_iff.1 hi).1
              rw [List.getElem?_eq_getElem hi2] at hi
              injection hi with hi
              exact absurd hi ((List.pairwise_iff_getElem.1 (vnext_nodup bk)) i j hi2 hix hij)
            · cases hi
          generalize (nextF bk)[j] = y at hcell hyl hget hnd
          obtain ⟨y0, rfl⟩ : ∃ y0 : Nat, y = (y0 : Int) := ⟨y.toNat, by omega⟩
          have hyN : y0 < N := by rw [HN.out]; omega
          have hyN0 : (y0 : Int) < (N : Int) := by omega
          have hyS : y0 < S'.length := by rw [j1.sl, ← HN.out]; exact hyN
          have hAl : (atA A2 y0).length ≤ 4096 := by
            rw [j2, pushA_at n _ A' ((vnext_nodup bk).sublist (List.take_sublist _ _)) (fun y hy => by rw [HST.out.sp.al]; exact HG.out.fok.lt HBK.out (List.mem_of_mem_take hy)), if_neg hnd]
            have := (HST.out.sp.rows y0).2
            have := HG.out.fok.room
            omega
          have htk := beh_take (S := S') hget
          have hpk := pushA_take (A := A') (n := n) hget
          rw [Int.toNat_natCast] at htk hpk
          have hob := beh_ok HST.out.sp.ok ((nextF bk).take j)
          obtain ⟨BH, hBH⟩ : ∃ x, x = behS S' ((nextF bk).take j) := ⟨_, rfl⟩
          rw [← hBH] at htk hob j3
          have HTK := Lib.hid htk
          have HPK := Lib.hid hpk
          have HOB := Lib.hid hob
          have HSO := Lib.hid (HST.out.sp.ok.at y0)
          have HCW := Lib.hid (fun W => setwith_any BH (atS S' y0) W hob (HST.out.sp.ok.at y0))
          have csv := one_at j1.svc
          rw [← HN.out] at csv
          have HJ1 := Lib.hid j1
          have HJ2 := Lib.hid j2
          have HJ3 := Lib.hid j3
          have HJ4 := Lib.hid j4
          have HJ5 := Lib.hid j5
          have HAl := Lib.hid hAl
          have HYS := Lib.hid hyS
          clear j1 j2 j3 j4 j5 hAl htk hpk hob hBH hget hnd HJ hyS
          go_wp2_with fail
          refine wp_region_late (S := SameX (fun _ => False) Z.heap.size Z) (fun j => decide (6 ≤ j)) (by kernel_rfl) (SameX.drew _ _ _) (fun hSw => ?_)
          refine lG 0 (setV BH) hSw (fun V hV => exec_set gB 0 BH BH 58 (0, 0) rfl (hV.row (by omega) id HJ3.out) (all16 HOB.out.len) HOB.out.len) ?_
          try simp only [nS]
          refine lG 1 (.slice (some ⟨b + 1, 0, none⟩) N N) hSw (fun V hV => ?_) ?_
          · have c := hV.cell (by dsimp only; omega) id csv
            first | (go_simp; done) | rfl
          try simp only [nS]
          refine lH 2 (.int .i64 (y0 : Int)) hSw ?_
          try simp only [nS]
          refine lG 3 (.pointer (some ⟨b + 1, 0 + y0 * 16, none⟩)) hSw (fun V hV => ?_) ?_
          · first | (go_simp; done) | (go_simp; omega) | rfl
          try simp only [nS]
          refine lG 4 (setV (atS S' y0)) hSw (fun V hV => exec_set (b + 1) (0 + y0 * 16) (flatS S') (atS S' y0) 58 (0, 0) rfl (hV.row (by omega) id HJ1.out.sbc) (HJ1.out.setAt HYS.out) HSO.out.len) ?_
          try simp only [nS]
          refine lR 5 (fun K hK => ?_)
          clear hSw
          go_simp
          refine (HCW.out _).mono ?_; rintro e Z1 ⟨rfl, hb1⟩
          have hb1' : Below Z.heap.size Z Z1 := ⟨hb1.os, hb1.tape, hb1.output, hb1.size, hb1.block⟩
          have hs1 := hb1'.size
          have HZ1 := Lib.hid hb1'
          clear hb1 hb1'
          refine hK.out _ _ (fun k hk _ => HZ1.out.block k (by omega)) (fun hSw => ?_)
          clear hK K
          try simp only [nS]
          have hR := HOB.out.with HSO.out
          obtain ⟨RR, hRR⟩ : ∃ x, x = withS BH (atS S' y0) := ⟨_, rfl⟩
          rw [← hRR] at hR HTK ⊢
          have HRO := Lib.hid hR
          clear hR hRR
          refine wpAnyL_only (rs := [6]) (by kernel_rfl) (by simp) (by rfl) ?_
          refine oR 6 (fun J hK => ?_)
          refine wp_put 58 (Operand.tmp 11) (Operand.tmp 53) rfl gB 58 _ (u64A RR) rfl rfl ((HZ1.out.block _ (by omega)).trans HJ3.out) (by rw [u64A_size, u64A_size, HOB.out.len, HRO.out.len]) (by rw [u64A_size, HRO.out.len]; kernel_rfl) (u64A_one _) ?_
          intro Z2 hp2
          have hz2 : Z1.heap.size ≤ Z2.heap.size := by have := hp2.size; omega
          have hw2 : Wr (fun x => x = gB) Z1 Z2 := ⟨hp2.os, hp2.tape, hp2.output, hz2, fun k _ hk => hp2.rest k hk⟩
          have hnB : ¬ RowB vs2 gB := fun q => by
            rcases HJ5.out gB q with q | q
            · have := HRL.out gB q; omega
            · omega
          have HZQ := Lib.hid hp2.at_b
          have hbmz : BM Z2 b g S' D' A2 M' vs2 := (HJ1.out.keeps HZ1.out).wrZ hw2 (by omega) hnB
          have HZW := Lib.hid (show Wr (fun x => SX b vs' x ∨ x = gB) w8 Z2 from HJ4.out.trans ((Wr.of HZ1.out).trans (hw2.mono (fun x q => .inr q))))
          have HNB := Lib.hid hnB
          refine hK.out _ _ ?_
          clear hK J hp2 hw2 hnB csv
          try simp only [nS]
          refine wpAny_done (by kernel_rfl) ?_ _
          obtain ⟨v, hv⟩ : ∃ v, vs2[y0]? = some v := ⟨_, List.getElem?_eq_getElem (by rw [hbmz.amc.vlen, ← HN.out]; exact hyN)⟩
          have hbmd : BM Z2.drew b g S' D' A2 M' vs2 := hbmz.keeps ⟨rfl, rfl, rfl, Nat.le_refl _, fun _ _ => rfl⟩
          obtain ⟨gq, cap3, w9, hrun, hc9, hf9, hz9, hw9, hbm9, hwr9, hrb9⟩ := hbmd.push (n := n) hv HAl.out
          have cav := one_at hbmz.avc
          rw [← HN.out] at cav
          have cA : Z2.cell? ⟨b + 5, y0, none⟩ = some v := by rw [Lib.cell_of_heap hbmz.amc.row]; simpa using hv
          have HNO := Lib.hid (show ∀ x, x < b + 11 → ¬ v.ownBlock = some x from fun x hx q => by have := (hbmz.rowlt ⟨y0, v, hv, q⟩).1; omega)
          have HNG := Lib.hid (show ¬ v.ownBlock = some gB from fun q => HNB.out ⟨y0, v, hv, q⟩)
          have HVV := Lib.hid (show RowB vs2 = RowB vs2 ∧ ∀ x, v.ownBlock = some x → RowB vs2 x from ⟨rfl, fun x q => ⟨y0, v, hv, q⟩⟩)
          have hAn : A2[y0]? = some (atA A2 y0) := get_atA (by rw [hbmz.amc.len, ← HN.out]; exact hyN)
          obtain ⟨av, nv, cv, hvf⟩ : ∃ a n c, v = .slice a n c := by
            rcases (hbmz.amc.own y0 v _ hv hAn).2 with ⟨q, _⟩ | ⟨_, _, _, q, _⟩
            · exact ⟨_, _, _, q⟩
            · exact ⟨_, _, _, q⟩
          have e1 := bls_of 37 3 1 1 #[(0, .int .i64 (n : Int))] #[.int .i64 (n : Int)] (by kernel_rfl) (by kernel_rfl) (by kernel_rfl) (by decide) (by decide) (by kernel_rfl) (by kernel_rfl) Z2.drew
          have HRUN := Lib.hid hrun
          have HW9 := Lib.hid hw9
          have HBM9 := Lib.hid hbm9
          have HWR9 := Lib.hid hwr9
          have HRB9 := Lib.hid hrb9
          have HVF := Lib.hid hvf
          clear hrun hw9 hbm9 hwr9 hrb9 hv hAn hbmz hbmd hvf
          go_wp2_with fail
          refine wp_region_late (S := SameX (fun x => v.ownBlock = some x) Z2.heap.size Z2) (fun j => decide (10 ≤ j)) (by kernel_rfl) (SameX.drew _ _ _) (fun hSw => ?_)
          refine lG 0 (.slice (some ⟨b + 5, 0, none⟩) N N) hSw (fun V hV => ?_) ?_
          · have c := hV.cell (by dsimp only; omega) (HNO.out _ (by dsimp only; omega)) cav
            first | (go_simp; done) | rfl
          try simp only [nS]
          refine lH 1 (.int .i64 (y0 : Int)) hSw ?_
          try simp only [nS]
          refine lG 2 (.slice (some ⟨b + 5, 0, none⟩) N N) hSw (fun V hV => ?_) ?_
          · have c := hV.cell (by dsimp only; omega) (HNO.out _ (by dsimp only; omega)) cav
            first | (go_simp; done) | rfl
          try simp only [nS]
          refine lH 3 (.int .i64 (y0 : Int)) hSw ?_
          try simp only [nS]
          refine lG 4 (.pointer (some ⟨b + 5, y0, none⟩)) hSw (fun V hV => ?_) ?_
          · first | (go_simp; done) | (go_simp; omega) | rfl
          try simp only [nS]
          refine lG 5 (v) hSw (fun V hV => ?_) ?_
          · have c := hV.cell (by dsimp only; omega) (HNO.out _ (by dsimp only; omega)) cA
            rw [HVF.out] at c ⊢
            first | (go_simp; done) | rfl
          try simp only [nS]
          refine lH 6 (.int .i64 (n : Int)) hSw ?_
          try simp only [nS]
          refine lR 7 (fun K hK => ?_)
          clear hSw
          go_simp
          refine hK.out _ _ (fun k hk _ => Below.heap_alloc _ _ _ hk) (fun hSw => ?_)
          clear hK K
          try simp only [nS]
          refine lR 8 (fun K hK => ?_)
          clear hSw
          refine wp_append_run _ _ 37 rfl v _ _ w9 rfl rfl HRUN.out ?_
          refine hK.out _ _ (fun k hk hne => HW9.out k hk hne) (fun hSw => ?_)
          clear hK K
          try simp only [nS]
          refine lG 9 (.pointer (some ⟨b + 5, y0, none⟩)) hSw (fun V hV => ?_) ?_
          · first | (go_simp; done) | (go_simp; omega) | rfl
          try simp only [nS]
          refine wpAnyL_only (rs := [10]) (by kernel_rfl) (by simp) (by rfl) ?_
          refine oR 10 (fun J hK => ?_)
          go_simp
          refine hK.out _ _ ?_
          clear hK J
          try simp only [nS]
          refine wpAny_done (by kernel_rfl) ?_ _
          have HQ := Lib.hid (show BM (w9.setCell ⟨b + 5, y0, none⟩ (.slice (some ⟨gq, 0, none⟩) ((atA A2 y0).length + 1) cap3)) b g S' D' (A2.set y0 (atA A2 y0 ++ [n])) M' (vs2.set y0 (.slice (some ⟨gq, 0, none⟩) ((atA A2 y0).length + 1) cap3)) ∧ A2.set y0 (atA A2 y0 ++ [n]) = pushA A' n ((nextF bk).take (j + 1)) ∧ (w9.setCell ⟨b + 5, y0, none⟩ (.slice (some ⟨gq, 0, none⟩) ((atA A2 y0).length + 1) cap3)).heap[gB]? = some (.cells (u64A (behS S' ((nextF bk).take (j + 1)))) 58 (0, 0)) ∧ Wr (fun x => SX b vs' x ∨ x = gB) w8 (w9.setCell ⟨b + 5, y0, none⟩ (.slice (some ⟨gq, 0, none⟩) ((atA A2 y0).length + 1) cap3)) ∧ (∀ x, RowB (vs2.set y0 (.slice (some ⟨gq, 0, none⟩) ((atA A2 y0).length + 1) cap3)) x → RowB vs' x ∨ w8.heap.size ≤ x) from by
            have hz := HZW.out.size
            have hgz : gB < Z2.heap.size := by omega
            refine ⟨HBM9.out, by rw [HPK.out, HJ2.out], ?_, HZW.out.drew.comp HWR9.out (fun x hx q => ?_), fun x q => ?_⟩
            · rw [HTK.out]
              exact (HWR9.out.block gB hgz (fun q => by
                rcases q with q | q
                · omega
                · exact HNG.out q)).trans HZQ.out
            · rcases q with q | q
              · exact .inl (.inr (.inr (.inl q)))
              · rcases HJ5.out x (HVV.out.2 x q) with p | p
                · exact .inl (.inr (.inr (.inr (.inr p))))
                · omega
            · rcases HRB9.out x q with p | p
              · exact HJ5.out x p
              · have p2 : Z2.heap.size ≤ x := p
                exact .inr (by omega))
          clear hc9 hf9 hz9 e1 cav cA
          go_wp2_with fail
          go_roundw
          case rel => exact ⟨j + 1, hjl, by go_num, Lib.hid ⟨_, _, HQ.out⟩⟩
          case measure => simp [intOf]; omega
    · have hkl : k < c2 := by omega
      have hix : k < (nextF bk).length := by rw [← HC2.out]; exact hkl
      obtain ⟨gM, offM, rfl, hgm1, hgm2, hcell⟩ := (HROW2.out.keeps hst.wr (fun x hx => by have := (HSXB.out x hx).2; omega)).get rfl hix
      have hyl := HG.out.fok.lt HBK.out (List.getElem_mem hix)
      generalize (nextF bk)[k] = y at hcell hyl
      obtain ⟨y0, rfl⟩ : ∃ y0 : Nat, y = (y0 : Int) := ⟨y.toNat, by omega⟩
      have hyN : y0 < N := by rw [HN.out]; omega
      have hyN0 : (y0 : Int) < (N : Int) := by omega
      obtain ⟨z, hz⟩ : ∃ z, M'[y0]? = some z := ⟨_, List.getElem?_eq_getElem (by rw [hst.sp.ml, ← HN.out]; exact hyN)⟩
      have cmv := one_at hst.bm.mvc
      rw [← HN.out] at cmv
      have cm := boolA_at hst.bm.mbc hz
      have cvv := one_at hst.bm.vvc
      have HST := Lib.hid hst
      cases z with
      | true =>
        clear hst hwrV hBV hz
        go_wp2_with fail
        go_roundw
        case rel => exact ⟨k + 1, hkl, by go_num, Lib.hid ⟨_, _, _, _, _, _, HST.out⟩⟩
        case measure => simp [intOf]; omega
      | false =>
        have hcnt : cntT M + 1 ≤ cntT M' := by
          rw [← cntT_set M n HMn.out]
          exact cntT_mono _ _ (by rw [hst.sp.ml, List.length_set, HP.out.ml]) hst.mm
        have hcl := cntT_le M'
        rw [hst.sp.ml] at hcl
        have hmu : g.blocks.length - cntT M' < K := by have := HK.out; omega
        have HRC := Lib.hid (HIH.out _ hmu y0 S' D' A' M' vs' dn' V rfl hst.bm hst.sp (HI.out.keeps hBV) hz)
        clear hst hwrV hBV hz hcnt hcl hmu
        go_wp2_with fail
        refine HRC.out.mono ?_
        rintro e V2 ⟨rfl, S3, D3, A3, M3, vs3, dn3, hst3, _⟩
        have HST3 := Lib.hid (HST.out.trans hst3)
        clear hst3
        go_wp2_with fail
        go_roundw
        case rel => exact ⟨k + 1, hkl, by go_num, Lib.hid ⟨_, _, _, _, _, _, HST3.out⟩⟩
        case measure => simp [intOf]; omega
end Go.Proofs.YtgkjhnghibpeoaaDoor
