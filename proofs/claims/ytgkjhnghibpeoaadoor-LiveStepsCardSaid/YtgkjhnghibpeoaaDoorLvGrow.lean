/- What is newly live goes back along the ways. -/
import Derived.Test.YtgkjhnghibpeoaaDoorRows
import Derived.Test.YtgkjhnghibpeoaaDoorLvMem
import Derived.Test.YtgkjhnghibpeoaaDoorIrLeaf
import Derived.Test.YtgkjhnghibpeoaaDoorIrNew
import Derived.Test.YtgkjhnghibpeoaaDoorParseOrder
import Derived.LoopTactic
import Derived.LoopN
import Derived.Deep.LoopGhost
import Derived.WalkKit
import Derived.WalkSpells
import Derived.WalkLawsBesides
import Derived.Lib.Hide
import Derived.OrdersHeld
import Derived.Deep.RegionHeld
import Derived.Deep.DrawnRows
import Derived.RegionTactic
import Derived.Deep.RegionHeld3
import Derived.IntWalk
import Derived.Deep.QuietTactic
import Derived.BigQuiet
namespace Go.Proofs.YtgkjhnghibpeoaaDoor
open Go.RowKit
set_option maxRecDepth 1000000
attribute [local go_sem ↓] bld_eq bls_eq


/-- What grow leaves. -/
def GrE (b : Nat) (g : Gr) (S : List (List Nat)) (D : List Dd) (A : List (List Nat)) (M : List Bool) (vs : List Value) (n : Nat) (live : List Nat) (w : World) (e : Ending) (w' : World) : Prop :=
  e = .returned (.tuple #[]) ∧ ∃ S', BM w' b g S' D A M vs ∧ GrowP D A n live S S' ∧ Wr (fun x => x = b + 1) w w'
theorem get_atS {S : List (List Nat)} {n : Nat} (h : n < S.length) : S[n]? = some (atS S n) := by unfold atS; rw [List.getElem?_eq_getElem h]; rfl
theorem get_atD {D : List Dd} {n : Nat} (h : n < D.length) : D[n]? = some (atD D n) := by unfold atD; rw [List.getElem?_eq_getElem h]; rfl
theorem get_atA {A : List (List Nat)} {n : Nat} (h : n < A.length) : A[n]? = some (atA A n) := by unfold atA; rw [List.getElem?_eq_getElem h]; rfl
theorem BM.setAt {w : World} {b : Nat} {g : Gr} {S : List (List Nat)} {D : List Dd} {A : List (List Nat)} {M : List Bool} {vs : List Value} (h : BM w b g S D A M vs) {n : Nat} (hn : n < S.length) : ((flatS S).drop (0 + n * 16)).take 16 = atS S n := by
  rw [Nat.zero_add]; exact flat_at (all16S h.sok) (get_atS hn)
theorem BM.deedAt {w : World} {b : Nat} {g : Gr} {S : List (List Nat)} {D : List Dd} {A : List (List Nat)} {M : List Bool} {vs : List Value} (h : BM w b g S D A M vs) {n : Nat} (hn : n < D.length) : ((flatD D).drop (0 + n * 32 + 16)).take 16 = (atD D n).2 := by
  have h1 : ((flatD D).drop (n * 32)).take 32 = (atD D n).1 ++ (atD D n).2 := flat_at (all32D h.dok) (by rw [List.getElem?_map, get_atD hn]; rfl)
  have hd := h.dok (atD D n) (List.mem_of_getElem? (get_atD hn))
  have h2 : (((flatD D).drop (n * 32)).take 32).drop 16 = (atD D n).2 := by rw [h1, List.drop_left' hd.a.len]
  rw [List.drop_take, List.drop_drop] at h2
  rw [Nat.zero_add]
  exact h2
theorem flatS_len {S : List (List Nat)} (h : AllOk S) : (flatS S).length = S.length * 16 := flat_len S (all16S h)
set_option maxHeartbeats 16000000 in
theorem grow_any (b : Nat) (g : Gr) (D : List Dd) (A : List (List Nat)) (M : List Bool) (vs : List Value) (hA : ∀ m f, f ∈ atA A m → f < g.blocks.length) (hN4 : g.blocks.length ≤ 4096) : ∀ (K : Nat) (S : List (List Nat)) (n : Nat) (live : List Nat) (w : World), leftAll S = K → BM w b g S D A M vs → n < g.blocks.length → SOk live →
    Calls Tryd.prog 26 #[.int .i64 (n : Int), setV live, .pointer (some ⟨b + 2, 0, none⟩), .pointer (some ⟨b + 6, 0, none⟩), .pointer (some ⟨b + 7, 0, none⟩), .pointer (some ⟨b + 4, 0, none⟩)] w (GrE b g S D A M vs n live w) := by
  intro K
  induction K using Nat.strongRecOn with
  | ind K ih =>
  intro S n live w hK hB hn hl
  have hbs := hB.size
  obtain ⟨N, hN⟩ : ∃ N, N = g.blocks.length := ⟨_, rfl⟩
  obtain ⟨U, hU⟩ : ∃ U, U = w.alloc (.cells (u64A live) 58) := ⟨_, rfl⟩
  have hbU : Below w.heap.size w U := by rw [hU]; exact below_box w _
  have hzU : U.heap.size = w.heap.size + 1 := by rw [hU]; simp
  have hqU : U.heap[w.heap.size]? = some (.cells (u64A live) 58 (0, 0)) := by rw [hU]; exact (MapKept.heap_alloc _ _).1
  have hBU := hB.keeps hbU
  have hnS : n < S.length := by rw [hB.sl]; exact hn
  have HCL := Lib.hid (fun W => setless_any live (atS S n) W hl (hB.sok.at n))
  have hol := hl.less (hB.sok.at n)
  obtain ⟨LV, hLV⟩ : ∃ LV, LV = u64A live := ⟨_, rfl⟩
  have hva : setV live = .agg LV := by rw [hLV]; rfl
  rw [hva]
  have HVA := Lib.hid hva
  have HU := Lib.hid (show U = w.alloc (.cells LV 58) from by rw [hLV]; exact hU)
  have HQU := Lib.hid hqU
  have HBU := Lib.hid hBU
  have HbU := Lib.hid hbU
  have HOL := Lib.hid hol
  have HL := Lib.hid hl
  have HN := Lib.hid hN
  have HK := Lib.hid hK
  have HIH := Lib.hid ih
  have HB := Lib.hid hB
  have HNS := Lib.hid hnS
  have HA := Lib.hid hA
  have csv := one_at hBU.svc
  have cgv := one_at hBU.gvc
  have cav := one_at hBU.avc
  have cdv := one_at hBU.dvc
  rw [← hN] at csv cav cdv hn hN4
  have hn0 : (n : Int) < (N : Int) := by omega
  clear hU hqU hBU hol hl hN hK ih hB hnS hbU hLV hva hA
  go_enter Tryd.func26, Tryd.ntmps26
  go_wp2_with (rw [← HU.out])
  refine wp_region_late (S := SameX (fun _ => False) (w.heap.size + 1) U) (fun j => decide (6 ≤ j)) (by kernel_rfl) (SameX.drew _ _ _) (fun hSw => ?_)
  refine lG 0 (setV live) hSw (fun V hV => exec_set w.heap.size 0 live live 58 (0, 0) rfl (hV.row (by omega) id HQU.out) (all16 HL.out.len) HL.out.len) ?_
  try simp only [nS]
  refine lG 1 (.slice (some ⟨b + 1, 0, none⟩) N N) hSw (fun V hV => ?_) ?_
  · have c := hV.cell (by dsimp only; omega) id csv
    first | (go_simp; done) | rfl
  try simp only [nS]
  refine lH 2 (.int .i64 (n : Int)) hSw ?_
  try simp only [nS]
  refine lG 3 (.pointer (some ⟨b + 1, 0 + n * 16, none⟩)) hSw (fun V hV => ?_) ?_
  · first | (go_simp; done) | (go_simp; omega) | rfl
  try simp only [nS]
  refine lG 4 (setV (atS S n)) hSw (fun V hV => exec_set (b + 1) (0 + n * 16) (flatS S) (atS S n) 58 (0, 0) rfl (hV.row (by omega) id HBU.out.sbc) (HB.out.setAt HNS.out) (HB.out.sok.at n).len) ?_
  try simp only [nS]
  refine lR 5 (fun K hK => ?_)
  clear hSw
  go_simp
  refine (HCL.out _).mono ?_; rintro e V1 ⟨rfl, hb1⟩
  have hb1' : Below U.heap.size U V1 := ⟨hb1.os, hb1.tape, hb1.output, hb1.size, hb1.block⟩
  have hs1 := hb1'.size
  have HB1 := Lib.hid hb1'
  clear hb1 hb1'
  refine hK.out _ _ (fun k hk _ => HB1.out.block k (by omega)) (fun hSw => ?_)
  clear hK K
  try simp only [nS]
  obtain ⟨NEW, hNEW⟩ : ∃ x, x = lessS live (atS S n) := ⟨_, rfl⟩
  rw [← hNEW] at HOL ⊢
  have HNEW := Lib.hid hNEW
  obtain ⟨NV, hNV⟩ : ∃ x, x = u64A NEW := ⟨_, rfl⟩
  have hvn : setV NEW = .agg NV := by rw [hNV]; rfl
  have HNV := Lib.hid hNV
  have HVN := Lib.hid hvn
  have HNZ := Lib.hid (show NV.size = 16 ∧ NV.all (·.oneCell') = true from by rw [hNV]; exact ⟨by rw [u64A_size, HOL.out.len], u64A_one _⟩)
  rw [hvn]
  clear hNEW hNV hvn
  refine wpAnyL_only (rs := [6]) (by kernel_rfl) (by simp) (by rfl) ?_
  refine oR 6 (fun J hK => ?_)
  refine wp_put 58 (Operand.tmp 7) (Operand.tmp 15) rfl w.heap.size 58 _ NV rfl rfl ((HB1.out.block _ (by omega)).trans HQU.out) (by rw [u64A_size, HL.out.len, HNZ.out.1]) (by rw [HNZ.out.1]; kernel_rfl) HNZ.out.2 ?_
  intro w5 hp5
  have hz5 : w.heap.size + 1 ≤ w5.heap.size := by have := hp5.size; omega
  have HP5 := Lib.hid hp5.at_b
  have hb5 : Below w.heap.size w w5 := hp5.below (HbU.out.trans (HB1.out.mono HbU.out.size)) (Nat.le_refl _)
  have HB5 := Lib.hid hb5
  have HBM5 := Lib.hid (HB.out.keeps hb5)
  refine hK.out _ _ ?_
  clear hK J hp5 hb5
  try simp only [nS]
  refine wpAny_done (by kernel_rfl) ?_ _
  have e1 := bld_of 58 #[] #[.int .u64 0, .int .u64 0, .int .u64 0, .int .u64 0, .int .u64 0, .int .u64 0, .int .u64 0, .int .u64 0, .int .u64 0, .int .u64 0, .int .u64 0, .int .u64 0, .int .u64 0, .int .u64 0, .int .u64 0, .int .u64 0] (by kernel_rfl)
  obtain ⟨bb, hbb⟩ : ∃ x, x = (NEW == emptyS) := ⟨_, rfl⟩
  have hEq : ∀ w, (binOp .eql 58 (.agg NV) (.agg #[.int .u64 0, .int .u64 0, .int .u64 0, .int .u64 0, .int .u64 0, .int .u64 0, .int .u64 0, .int .u64 0, .int .u64 0, .int .u64 0, .int .u64 0, .int .u64 0, .int .u64 0, .int .u64 0, .int .u64 0, .int .u64 0])).run Tryd.prog w = .ok (.bool bb) w := fun w => by
    rw [HNV.out, hbb]
    exact eql_set NEW emptyS HOL.out SOk.empty w
  have HBB := Lib.hid hbb
  clear hbb csv cgv cav cdv
  cases bb with
  | true =>
    go_wp2_with (refine wpList_load_row rfl 58 (Operand.tmp 7) rfl w.heap.size rfl 58 NV (0, 0) _ HP5.out Tryd.underlying58 rfl (by rw [HNZ.out.1]; kernel_rfl) ?_)
    refine bodyPost_ret (results_none rfl _ _ _) rfl ?_
    exact ⟨rfl, S, HBM5.out, GrowP.nil HB.out.sok HL.out (by rw [← HNEW.out]; have := HBB.out; simpa using this.symm), Wr.of HB5.out⟩
  | false =>
    have HNE := Lib.hid (show lessS live (atS S n) ≠ emptyS from fun q => by
      have := HBB.out
      rw [HNEW.out, q] at this
      simp at this)
    have csv := one_at HBM5.out.svc
    rw [← HN.out] at csv
    have hR := (HB.out.sok.at n).with HOL.out
    have HCW := Lib.hid (fun W => setwith_any (atS S n) NEW W (HB.out.sok.at n) HOL.out)
    go_wp2_with (refine wpList_load_row rfl 58 (Operand.tmp 7) rfl w.heap.size rfl 58 NV (0, 0) _ HP5.out Tryd.underlying58 rfl (by rw [HNZ.out.1]; kernel_rfl) ?_)
    refine wp_region_late (S := SameX (fun _ => False) (w.heap.size + 1) w5) (fun j => decide (9 ≤ j)) (by kernel_rfl) (SameX.drew _ _ _) (fun hSw => ?_)
    refine lG 0 (.slice (some ⟨b + 1, 0, none⟩) N N) hSw (fun V hV => ?_) ?_
    · have c := hV.cell (by dsimp only; omega) id csv
      first | (go_simp; done) | rfl
    try simp only [nS]
    refine lH 1 (.int .i64 (n : Int)) hSw ?_
    try simp only [nS]
    refine lG 2 (.slice (some ⟨b + 1, 0, none⟩) N N) hSw (fun V hV => ?_) ?_
    · have c := hV.cell (by dsimp only; omega) id csv
      first | (go_simp; done) | rfl
    try simp only [nS]
    refine lH 3 (.int .i64 (n : Int)) hSw ?_
    try simp only [nS]
    refine lG 4 (.pointer (some ⟨b + 1, 0 + n * 16, none⟩)) hSw (fun V hV => ?_) ?_
    · first | (go_simp; done) | (go_simp; omega) | rfl
    try simp only [nS]
    refine lG 5 (setV (atS S n)) hSw (fun V hV => exec_set (b + 1) (0 + n * 16) (flatS S) (atS S n) 58 (0, 0) rfl (hV.row (by omega) id HBM5.out.sbc) (HB.out.setAt HNS.out) (HB.out.sok.at n).len) ?_
    try simp only [nS]
    refine lG 6 (setV NEW) hSw (fun V hV => exec_set w.heap.size 0 NEW NEW 58 (0, 0) rfl (hV.row (by omega) id (by rw [HP5.out, HNV.out])) (all16 HOL.out.len) HOL.out.len) ?_
    try simp only [nS]
    refine lR 7 (fun K hK => ?_)
    clear hSw
    go_simp
    refine (HCW.out _).mono ?_; rintro e V2 ⟨rfl, hb2⟩
    have hb2' : Below w5.heap.size w5 V2 := ⟨hb2.os, hb2.tape, hb2.output, hb2.size, hb2.block⟩
    have hs2 := hb2'.size
    have HB2 := Lib.hid hb2'
    clear hb2 hb2'
    refine hK.out _ _ (fun k hk _ => HB2.out.block k (by omega)) (fun hSw => ?_)
    clear hK K
    try simp only [nS]
    refine lG 8 (.pointer (some ⟨b + 1, n * 16, none⟩)) hSw (fun V hV => ?_) ?_
    · first | (go_simp; done) | (go_simp; omega) | rfl
    try simp only [nS]
    obtain ⟨R, hRe⟩ : ∃ x, x = withS (atS S n) NEW := ⟨_, rfl⟩
    rw [← hRe] at hR ⊢
    have HRe := Lib.hid hRe
    have HR := Lib.hid hR
    clear hR hRe
    refine wpAnyL_only (rs := [9]) (by kernel_rfl) (by simp) (by rfl) ?_
    refine oR 9 (fun J hK => ?_)
    have hfl := flatS_len HB.out.sok
    have hnl := HNS.out
    refine wp_put_at 58 (Operand.tmp 27) (Operand.tmp 26) rfl (b + 1) (n * 16) 58 (u64A (flatS S)) (u64A R) (u64A (flatS (S.set n R))) rfl rfl ((HB2.out.block _ (by omega)).trans HBM5.out.sbc) (by rw [u64A_size, u64A_size, HR.out.len, hfl]; omega) (by rw [u64A_size, HR.out.len]; kernel_rfl) (u64A_one _) (by
      rw [← u64A_put _ _ _ (by rw [HR.out.len, hfl]; omega), HR.out.len]
      unfold flatS
      rw [flat_set (all16S HB.out.sok) (get_atS HNS.out) HR.out.len]) ?_
    intro w6 hp6
    have hz6 : w.heap.size + 1 ≤ w6.heap.size := by have := hp6.size; omega
    have hw6 : Wr (fun x => x = b + 1) V2 w6 := ⟨hp6.os, hp6.tape, hp6.output, by rw [hp6.size]; exact Nat.le_refl _, fun k _ hk => hp6.rest k hk⟩
    have hbm6 : BM w6 b g (S.set n R) D A M vs := (HBM5.out.keeps HB2.out).setS hw6 hp6.at_b (by simp) (HB.out.sok.set n HR.out)
    have HW6 := Lib.hid (show Wr (fun x => x = b + 1) w w6 from (Wr.of (S := fun x => x = b + 1) (HB5.out.trans (HB2.out.mono HB5.out.size))).trans (by exact hw6))
    have HP6 := Lib.hid (show w6.heap[w.heap.size]? = some (.cells (u64A NEW) 58 (0, 0)) from by rw [hp6.rest _ (by omega), HB2.out.block _ (by omega), HP5.out, HNV.out])
    have HGL := Lib.hid (show GrowL D A n NEW S 0 (S.set n R) from by rw [HRe.out]; exact GrowL.start HB.out.sok HNS.out HOL.out)
    have HLT := Lib.hid (show leftAll (S.set n R) < leftAll S from by rw [HRe.out, HNEW.out]; exact left_lt HB.out.sok HNS.out HL.out HNE.out)
    have HBM6 := Lib.hid hbm6
    refine hK.out _ _ ?_
    clear hK J hp6 hw6 hfl hnl csv
    try simp only [nS]
    refine wpAny_done (by kernel_rfl) ?_ _
    obtain ⟨v, hv⟩ : ∃ v, vs[n]? = some v := ⟨_, List.getElem?_eq_getElem (by rw [hbm6.amc.vlen, ← HN.out]; exact hn)⟩
    have hAn : A[n]? = some (atA A n) := get_atA (by rw [hbm6.amc.len, ← HN.out]; exact hn)
    have hown := hbm6.amc.own n v _ hv hAn
    have cA : w6.cell? ⟨b + 5, n, none⟩ = some v := by rw [Lib.cell_of_heap hbm6.amc.row]; simpa using hv
    obtain ⟨RL, hRL⟩ : ∃ x, x = (atA A n).length := ⟨_, rfl⟩
    have hcap : RL ≤ 9223372036854775807 := by
      rcases hown.2 with ⟨_, q⟩ | ⟨_, _, _, _, _, _, q1, q2, _⟩
      · omega
      · unfold maxLen at q2; omega
    obtain ⟨av, cv, hvf⟩ : ∃ a c, v = .slice a RL c := by
      rw [hRL]
      rcases hown.2 with ⟨q, q0⟩ | ⟨_, _, _, q, _⟩
      · exact ⟨_, _, by rw [q, q0]⟩
      · exact ⟨_, _, q⟩
    have HCE := Lib.hid (show ∀ (k f : Nat), (atA A n)[k]? = some f → ∃ gv, av = some ⟨gv, 0, none⟩ ∧ b + 11 ≤ gv ∧ gv < w6.heap.size ∧ w6.cell? ⟨gv, k, none⟩ = some (.int .i64 (f : Int)) from fun k f hf => by
      have hkl := (List.getElem?_eq_some_iff.1 hf).1
      rcases hown.2 with ⟨_, q0⟩ | ⟨gv, cap', cur, q, hb', hg', _⟩
      · omega
      · rw [hvf] at q
        cases q
        refine ⟨gv, rfl, hb', (Array.getElem?_eq_some_iff.1 hg').1, ?_⟩
        rw [hvf] at hown
        have := hown.cellAt k (by omega)
        rw [this]
        unfold natsV
        rw [List.getElem?_map, hf]; rfl)
    have cav := one_at hbm6.avc
    rw [← HN.out] at cav
    have HRL := Lib.hid hRL
    rw [hvf] at cA
    clear hv hAn hown hRL hvf hbm6
    go_wp2_with fail
    go_loopw [33] (fun q wr => ∃ k : Nat, q = .int .i64 (k : Int) ∧ k ≤ RL ∧ Hid (∃ S2, BM wr b g S2 D A M vs ∧ GrowL D A n NEW S k S2 ∧ Wr (fun x => x = b + 1) w6 wr ∧ leftAll S2 < leftAll S)) (fun q _ => RL - (intOf q).toNat)
    case atStart => exact ⟨0, rfl, Nat.zero_le _, Lib.hid ⟨_, HBM6.out, HGL.out, Wr.refl _ _, HLT.out⟩⟩
    case round => as_aux_lemma =>
      obtain ⟨k, rfl, hk, HM⟩ := hrel
      rename World => Y
      obtain ⟨S2, m1, m2, m3, m4⟩ := HM.out
      have hzY := m3.size
      by_cases hkR : k = RL
      · have HFIN := Lib.hid (show GrE b g S D A M vs n live w (.returned (.tuple #[])) Y from ⟨rfl, S2, m1, by
          have h := m2
          rw [HNEW.out] at h
          exact h.done HB.out.sok HL.out (by rw [← HRL.out, hkR]; exact Nat.le_refl _), HW6.out.trans m3⟩)
        subst hkR
        clear m1 m2 m3 m4 cA cav
        go_wp2_with fail
        go_end0
        exact HFIN.out
      · have hkl : k < RL := by omega
        obtain ⟨f, hf⟩ : ∃ f, (atA A n)[k]? = some f := ⟨_, List.getElem?_eq_getElem (by rw [← HRL.out]; exact hkl)⟩
        obtain ⟨gv, rfl, hgv1, hgv2, hcf⟩ := HCE.out k f hf
        have cF : Y.cell? ⟨gv, k, none⟩ = some (.int .i64 (f : Int)) := (World.cell?_of_block (m3.block gv hgv2 (by omega))).trans hcf
        have hfN : f < N := by rw [HN.out]; exact HA.out n f (List.mem_of_getElem? hf)
        have hfN0 : (f : Int) < (N : Int) := by omega
        have hfD : f < D.length := by rw [m1.dl, ← HN.out]; exact hfN
        have hdk := m1.dok _ (List.mem_of_getElem? (get_atD hfD))
        have HBMY := Lib.hid m1
        have HM2 := Lib.hid m2
        have HM3 := Lib.hid m3
        have HM4 := Lib.hid m4
        have HFD := Lib.hid hfD
        have HFK := Lib.hid hf
        have HDK := Lib.hid hdk
        have hok2 := HOL.out.less hdk.c
        have HC2 := Lib.hid (fun W => setless_any NEW (atD D f).2 W HOL.out hdk.c)
        have hmu : leftAll S2 < K := by rw [← HK.out]; exact m4
        have HRC := Lib.hid (fun (W : World) (h : BM W b g S2 D A M vs) => HIH.out (leftAll S2) hmu S2 f (lessS NEW (atD D f).2) W rfl h (by rw [← HN.out]; exact hfN) hok2)
        have HPY := Lib.hid ((m3.block w.heap.size (by omega) (by omega)).trans HP6.out)
        have cdv := one_at m1.dvc
        have cgv := one_at m1.gvc
        rw [← HN.out] at cdv
        clear m1 m2 m3 m4 hcf hf hfD hdk hok2 hmu
        go_wp2_with fail
        refine wp_region_held_drew (S := SameX (fun x => x = b + 1) Y.heap.size Y) (by kernel_rfl) (SameX.drew _ _ _) (fun hSw => ?_)
        refine tG 0 (.func (.func 26) #[] #[.pointer (some ⟨b + 2, 0, none⟩), .pointer (some ⟨b + 6, 0, none⟩), .pointer (some ⟨b + 7, 0, none⟩), .pointer (some ⟨b + 4, 0, none⟩)]) hSw (fun V hV => ?_) ?_
        · have c := hV.cell (by dsimp only; omega) (by dsimp only; omega) cgv
          first | (go_simp; done) | rfl
        try simp only [nS]
        refine tH 1 (.int .i64 (f : Int)) hSw ?_
        try simp only [nS]
        refine tG 2 (setV NEW) hSw (fun V hV => exec_set w.heap.size 0 NEW NEW 58 (0, 0) rfl (hV.row (by omega) (by omega) HPY.out) (all16 HOL.out.len) HOL.out.len) ?_
        try simp only [nS]
        refine tG 3 (.slice (some ⟨b + 3, 0, none⟩) N N) hSw (fun V hV => ?_) ?_
        · have c := hV.cell (by dsimp only; omega) (by dsimp only; omega) cdv
          first | (go_simp; done) | rfl
        try simp only [nS]
        refine tH 4 (.int .i64 (f : Int)) hSw ?_
        try simp only [nS]
        refine tG 5 (.pointer (some ⟨b + 3, 0 + f * 32, none⟩)) hSw (fun V hV => ?_) ?_
        · first | (go_simp; done) | (go_simp; omega) | rfl
        try simp only [nS]
        refine tG 6 (.pointer (some ⟨b + 3, 0 + f * 32 + 16, none⟩)) hSw (fun V hV => ?_) ?_
        · first | (go_simp; done) | (go_simp; omega) | rfl
        try simp only [nS]
        refine tG 7 (setV (atD D f).2) hSw (fun V hV => exec_set (b + 3) (0 + f * 32 + 16) (flatD D) (atD D f).2 67 (0, 0) rfl (hV.row (by omega) (by omega) HBMY.out.dbc) (HBMY.out.deedAt HFD.out) HDK.out.c.len) ?_
        try simp only [nS]
        refine tR 8 (fun K hK => ?_)
        clear hSw
        go_simp
        refine (HC2.out _).mono ?_; rintro e Y1 ⟨rfl, hb8⟩
        have hb8' : Below Y.heap.size Y Y1 := ⟨hb8.os, hb8.tape, hb8.output, hb8.size, hb8.block⟩
        have hs8 := hb8'.size
        have HB8 := Lib.hid hb8'
        clear hb8 hb8'
        refine hK.out _ _ (fun k hk _ => HB8.out.block k (by omega)) (fun hSw => ?_)
        clear hK K
        try simp only [nS]
        refine tR 9 (fun K hK => ?_)
        clear hSw
        go_simp
        refine (HRC.out _ (HBMY.out.keeps HB8.out)).mono ?_
        rintro e Y2 ⟨rfl, S3, n1, n2, n3⟩
        have HN1 := Lib.hid (show BM Y2 b g S3 D A M vs ∧ GrowL D A n NEW S (k + 1) S3 ∧ Wr (fun x => x = b + 1) w6 Y2 ∧ leftAll S3 < leftAll S from ⟨n1, HM2.out.next HDK.out HOL.out HFK.out n2, HM3.out.trans ((Wr.of HB8.out).trans n3), Nat.lt_of_le_of_lt (left_mono _ _ n2.len n2.mono) HM4.out⟩)
        refine hK.out _ _ (fun k hk hne => (n3.block k (by omega) hne).trans (HB8.out.block k (by omega))) (fun hSw => ?_)
        clear hK K n1 n2 n3
        try simp only [nS]
        refine wpAnyH_done (by kernel_rfl) ?_ _
        go_wp2_with fail
        go_roundw
        case rel => exact ⟨k + 1, by go_num, hkl, Lib.hid ⟨S3, HN1.out⟩⟩
        case measure => simp [intOf]; omega
end Go.Proofs.YtgkjhnghibpeoaaDoor
