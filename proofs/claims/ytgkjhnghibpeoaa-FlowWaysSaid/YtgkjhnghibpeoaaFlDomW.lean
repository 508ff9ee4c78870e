/- Which block lies next on every way to each. -/
import Derived.Test.YtgkjhnghibpeoaaRows
import Derived.Test.YtgkjhnghibpeoaaFlEvery
import Derived.Test.YtgkjhnghibpeoaaFlLast
import Derived.Test.YtgkjhnghibpeoaaIrSizes
import Derived.Test.YtgkjhnghibpeoaaFlMem
import Derived.Test.YtgkjhnghibpeoaaParseOrder
import Derived.LoopTactic
import Derived.LoopN
import Derived.Deep.LoopGhost
import Derived.WalkKit
import Derived.WalkSpells
import Derived.WalkLawsBesides
import Derived.Lib.Hide
import Derived.OrdersHeld
import Derived.Deep.RegionHeld
import Derived.Deep.DrawnRows
import Derived.RegionTactic
import Derived.Deep.RegionHeld3
import Derived.IntWalk
import Derived.Deep.QuietTactic
import Derived.BigQuiet
namespace Go.Proofs.Ytgkjhnghibpeoaa
open Go.RowKit
set_option maxRecDepth 1000000
attribute [local go_sem ↓] bld_eq bls_eq


theorem bitW_clr {r : List Nat} {x k : Nat} (hx : r[k / 64]? = some x) (hx2 : x < 2 ^ 64) (t : Nat) : bitW (r.set (k / 64) (clrW x (k % 64))) t = (bitW r t && decide (t ≠ k)) := by
  unfold bitW
  rw [List.getElem?_set]
  by_cases h : k / 64 = t / 64
  · rw [if_pos h, if_pos (some_lt hx), ← h, hx]
    simp only [Option.getD_some]
    rw [clrW_bit hx2 (Nat.mod_lt _ (by decide)) _ (Nat.mod_lt _ (by decide))]
    congr 1
    have : (t % 64 ≠ k % 64) ↔ t ≠ k := by omega
    simp only [decide_eq_decide]
    exact this
  · rw [if_neg h]
    have : t ≠ k := by intro e; subst e; exact h rfl
    simp [this]
theorem rep_setI (n k : Nat) (x y : Int) (h : k < n) : (List.replicate k x ++ List.replicate (n - k) y).set k x = List.replicate (k + 1) x ++ List.replicate (n - (k + 1)) y := by
  rw [List.set_append_right _ _ (by simp)]
  obtain ⟨d, rfl⟩ : ∃ d, n = k + (d + 1) := ⟨n - k - 1, by omega⟩
  rw [show k + (d + 1) - k = d + 1 by omega, show k + (d + 1) - (k + 1) = d by omega]
  rw [List.length_replicate, Nat.sub_self, List.replicate_succ (n := d), List.set_cons_zero, List.replicate_succ', List.append_assoc]
  rfl
theorem lastP_of {S : List (List Nat)} {r : List Nat} {x k : Nat} (hr : S[k]? = some r) (hx : r[k / 64]? = some x) (hx2 : x < 2 ^ 64) {v : Int} (h : LastW (r.set (k / 64) (clrW x (k % 64))) v) : LastP S k v := by
  have hb : ∀ t, hasB S k t = bitW r t := fun t => by unfold hasB rowB; rw [hr]; rfl
  rcases h with ⟨rfl, h⟩ | ⟨t, rfl, h1, h2⟩
  · refine .inl ⟨rfl, fun t ht => ?_⟩
    have := h t
    rw [bitW_clr hx hx2] at this
    rw [hb]
    simpa [ht] using this
  · rw [bitW_clr hx hx2] at h1
    simp only [Bool.and_eq_true, decide_eq_true_eq] at h1
    refine .inr ⟨t, rfl, h1.2, by rw [hb]; exact h1.1, fun u hu hk => ?_⟩
    have := h2 u hu
    rw [bitW_clr hx hx2] at this
    rw [hb]
    simpa [hk] using this
/-- What Dom answers of graphs that may be. -/
def DmE (bl : List Bk) (w : World) (e : Ending) (w' : World) : Prop := ∃ o D gD, e = .returned (.tuple #[.slice (some ⟨gD, 0, none⟩) bl.length bl.length, .int .i64 0]) ∧ w.heap.size ≤ gD ∧ w'.heap[gD]? = some (.cells (intA D) 3 (0, 0)) ∧ OrdP bl o ∧ o.length ≤ bl.length ∧ DomP bl o D ∧ Below w.heap.size w w'
theorem rep_intA (n : Nat) : natA (List.replicate n 0) = intA (List.replicate n 0) := by
  unfold natA intA
  rw [List.map_replicate, List.map_replicate]
  rfl
set_option maxHeartbeats 16000000 in
theorem dom_any (B : Nat) (g : Gr) (w : World) (hg : FOk g.blocks) (hI : GIn w B g) (hBw : B ≤ w.heap.size) (HMB : ∀ u : World, Below w.heap.size w u → Calls Try.prog 13 #[.agg #[g.rv, .int .i64 g.sites, g.bv]] u fun e w' => e = .returned (.bool true) ∧ Below u.heap.size u w') :
    Calls Try.prog 8 #[.agg #[g.rv, .int .i64 g.sites, g.bv]] w (DmE g.blocks w) := by
  obtain ⟨bo, bcp, eb, hbl, hbg⟩ := hI.blies.form
  obtain ⟨N, hN⟩ : ∃ N, N = g.blocks.length := ⟨_, rfl⟩
  rw [← hN] at eb hbg
  have hn8 : N ≤ 4096 := by rw [hN]; exact hg.room
  have HI := Lib.hid hI
  have HG := Lib.hid hg
  have HN := Lib.hid hN
  have HEB := Lib.hid eb
  obtain ⟨rv, hrv⟩ : ∃ x, x = g.rv := ⟨_, rfl⟩
  obtain ⟨st, hst⟩ : ∃ x, x = g.sites := ⟨_, rfl⟩
  have HRR := Lib.hid (And.intro hrv hst)
  rw [eb, ← hrv, ← hst]
  obtain ⟨q0, q1, q2⟩ := own3 (MapKept.heap_alloc w (.cells #[rv, .int .i64 st, .slice bo N bcp] 25)).1
  rw [eb, ← hrv, ← hst] at HMB
  have m1 := make_int N (by omega)
  rw [rep_intA] at m1
  obtain ⟨M1, hM1⟩ : ∃ M, M = intA (List.replicate N 0) := ⟨_, rfl⟩
  rw [← hM1] at m1
  obtain ⟨W1, hW1⟩ : ∃ W1, W1 = w.alloc (.cells #[rv, .int .i64 st, .slice bo N bcp] 25) := ⟨_, rfl⟩
  have hb1 : Below w.heap.size w W1 := by rw [hW1]; exact below_box w _
  have hz1 : W1.heap.size = w.heap.size + 1 := by rw [hW1]; simp
  have hG1 : W1.heap[w.heap.size]? = some (.cells #[rv, .int .i64 st, .slice bo N bcp] 25 (0, 0)) := by rw [hW1]; exact (MapKept.heap_alloc _ _).1
  have HMB := Lib.hid (HMB W1 hb1)
  have HM1 := Lib.hid hM1
  have HW1 := Lib.hid hW1
  have HB1 := Lib.hid hb1
  have HG1 := Lib.hid hG1
  clear hI hg hN eb hM1 hrv hst hbl hW1 hb1 hG1
  go_enter Try.func8, Try.ntmps8
  go_wp2_with fail
  rw [← HW1.out]
  clear q0 q1 q2
  refine HMB.out.mono ?_; rintro e W2 ⟨rfl, hb2⟩
  have hs2 := hb2.size
  obtain ⟨q0, q1, q2⟩ := own3 ((hb2.block w.heap.size (by omega)).trans HG1.out)
  obtain ⟨W3, hW3⟩ : ∃ W3, W3 = W2.alloc (.cells M1 3) := ⟨_, rfl⟩
  have hD3 : W3.heap[W2.heap.size]? = some (.cells (intA (List.replicate N 0)) 3 (0, 0)) := by rw [hW3, HM1.out]; exact (MapKept.heap_alloc _ _).1
  have hz3 : W3.heap.size = W2.heap.size + 1 := by rw [hW3]; simp
  have hb23 : Below W2.heap.size W2 W3 := by rw [hW3]; exact below_box W2 _
  have HG3 := Lib.hid ((hb23.block w.heap.size (by omega)).trans ((hb2.block w.heap.size (by omega)).trans HG1.out))
  have HB3 := Lib.hid ((HB1.out.trans (hb2.mono (by omega))).trans (hb23.mono (by omega)))
  have HD3 := Lib.hid hD3
  have HW3 := Lib.hid hW3
  clear hb2 hD3 hW3 hb23
  go_wp2_with fail
  rw [← HW3.out]
  clear q0 q1 q2
  go_loopw [19] (fun q wr => ∃ k : Nat, k ≤ N ∧ q = .int .i64 (k : Int) ∧ Hid (wr.heap[W2.heap.size]? = some (.cells (intA (List.replicate k (-1) ++ List.replicate (N - k) 0)) 3 (0, 0)) ∧ Wr (fun b => b = W2.heap.size) W3 wr)) (fun q _ => N - (intOf q).toNat)
  case atStart => exact ⟨0, Nat.zero_le _, rfl, Lib.hid ⟨by simpa using HD3.out, Wr.refl _ _⟩⟩
  case round =>
    obtain ⟨k, hk, rfl, HR⟩ := hrel
    obtain ⟨hrow, hwr⟩ := HR.out
    have hzr := hwr.size
    by_cases hlk : k < N
    · obtain ⟨z, hz⟩ : ∃ z, (List.replicate k (-1 : Int) ++ List.replicate (N - k) 0)[k]? = some z := ⟨_, List.getElem?_eq_getElem (by simp; omega)⟩
      have c1 := intA_at hrow hz
      have f1 := Lib.frozen_of_heap hrow k
      have h1 := intA_set hrow k (-1)
      rw [rep_setI N k (-1) 0 hlk] at h1
      have HQ := Lib.hid (And.intro h1 (hwr.trans (Wr.set (S := fun b => b = W2.heap.size) (i := k) wr rfl (.int .i64 (-1)))))
      clear hrow hwr HR h1 hz
      go_wp2_with fail
      go_roundw
      case rel => exact ⟨k + 1, by omega, by go_num, Lib.hid ⟨HQ.out.1, HQ.out.2⟩⟩
      case measure => simp [intOf]; omega
    · have hkN : k = N := by omega
      subst hkN
      rw [Nat.sub_self, List.replicate_zero, List.append_nil] at hrow
      rename World => V
      have hgb := (hwr.block w.heap.size (by omega) (by omega)).trans HG3.out
      obtain ⟨q0, q1, q2⟩ := own3 hgb
      have hbV : Below w.heap.size w V := HB3.out.trans (hwr.below (fun x hx => by omega) (by omega))
      have hor := ordered_any B g V HG.out (HI.out.keeps (hbV.mono hBw)) (by omega)
      rw [HEB.out, ← HRR.out.1, ← HRR.out.2] at hor
      have HOR := Lib.hid hor
      have HGB := Lib.hid hgb
      have HBV := Lib.hid hbV
      have hDV := hrow
      have HDV := Lib.hid hDV
      clear hrow hwr HR hgb hbV hor hDV
      go_wp2_with fail
      refine HOR.out.mono ?_; rintro e V1 ⟨o, v, rfl, ho, hol, hrow1, hb1⟩
      obtain ⟨ao, cap, rfl⟩ := hrow1.form
      have hs1 := hb1.size
      obtain ⟨m, hm⟩ : ∃ m, m = o.length := ⟨_, rfl⟩
      have hgb1 := (hb1.block w.heap.size (by omega)).trans HGB.out
      obtain ⟨q0, q1, q2⟩ := own3 hgb1
      have hbV1 := HBV.out.trans (hb1.mono (by omega))
      have hev := every_any B V.heap.size g o _ V1 HG.out ho hol (HI.out.keeps (hbV1.mono hBw)) (by omega) hrow1
      rw [HEB.out, ← HRR.out.1, ← HRR.out.2, List.length_map, ← hm] at hev
      rw [List.length_map, ← hm]
      have hmk : m ≤ k := by rw [hm, HN.out]; exact hol
      have HEV := Lib.hid hev
      have HO := Lib.hid ho
      have HM := Lib.hid hm
      have HROW := Lib.hid hrow1
      have HBV1 := Lib.hid hbV1
      have HD1 := Lib.hid ((hb1.block W2.heap.size (by omega)).trans HDV.out)
      clear ho hol hrow1 hb1 hm hgb1 hbV1 hev
      go_wp2_with fail
      refine HEV.out.mono ?_; rintro e V2 ⟨gS, bs, S, rfl, hS, hbl, hF, hb2⟩
      have hs2' := hb2.size
      rw [← HM.out] at hS hbl ⊢
      obtain ⟨WW, hWW⟩ : ∃ WW, WW = (m + 63) / 64 := ⟨_, rfl⟩
      rw [← hWW] at hS
      have HWW := Lib.hid hWW
      clear hWW
      have HS := Lib.hid hS
      have HF := Lib.hid hF
      have HBL := Lib.hid hbl
      have HBV2 := Lib.hid (HBV1.out.trans (hb2.mono (by omega)))
      have HD2 := Lib.hid ((hb2.block W2.heap.size (by omega)).trans HD1.out)
      have HB12 := Lib.hid hb2
      have hgs : gS < V2.heap.size := (Array.getElem?_eq_some_iff.1 hS.row).1
      have hgsl := hS.lowS
      clear hS hF hbl hb2 q0 q1 q2
      go_wp2_with fail
      go_loopw [32] (fun q wr => ∃ i : Nat, i ≤ m ∧ q = .int .i64 (i : Int) ∧ Hid (∃ S' D, SetM wr V1.heap.size gS m WW bs S' ∧ (∀ j, i ≤ j → S'[j]? = S[j]?) ∧ wr.heap[W2.heap.size]? = some (.cells (intA D) 3 (0, 0)) ∧ DomI g.blocks o S i D ∧ Wr (fun x => x ∈ bs ∨ x = W2.heap.size) V2 wr)) (fun q _ => m - (intOf q).toNat)
      case atStart => exact ⟨0, Nat.zero_le _, rfl, Lib.hid ⟨S, _, HS.out, fun j _ => rfl, HD2.out, by
        have h := DomI.start g.blocks o S
        rw [← HN.out] at h
        exact h, Wr.refl _ _⟩⟩
      case round =>
        obtain ⟨i, hi, rfl, HR⟩ := hrel
        obtain ⟨S', D, hS', hSS, hD, hDI, hwr⟩ := HR.out
        have hzr := hwr.size
        by_cases hli : i < m
        · have hio : i < o.length := by rw [← HM.out]; exact hli
          obtain ⟨op, hfa, hop⟩ := id HF.out
          obtain ⟨b, hb⟩ : ∃ b, bs[i]? = some b := ⟨_, List.getElem?_eq_getElem (by rw [HBL.out]; exact hli)⟩
          obtain ⟨r, hr⟩ : ∃ r, S[i]? = some r := ⟨_, List.getElem?_eq_getElem (by rw [hfa.len]; exact hio)⟩
          have hr' : S'[i]? = some r := (hSS i (Nat.le_refl _)).trans hr
          obtain ⟨hrl, hr64⟩ := hfa.row r (List.mem_of_getElem? hr)
          have hWW := HWW.out
          rw [← HM.out, ← hWW] at hrl
          have hxl : i / 64 < r.length := by rw [hrl]; omega
          obtain ⟨x, hx⟩ : ∃ x, r[i / 64]? = some x := ⟨_, List.getElem?_eq_getElem hxl⟩
          have hx64 := hr64 x (List.mem_of_getElem? hx)
          have hrow := hS'.at' i b r hb hr'
          have hW8 : WW ≤ 8192 := by omega
          have htk := take_any b r i x wr hrow hx hx64 (by rw [hrl]; exact hW8)
          have c0 := setC_at hS'.row hb
          have hbm := List.mem_of_getElem? hb
          obtain ⟨r2, hr2⟩ : ∃ r2, r2 = r.set (i / 64) (clrW x (i % 64)) := ⟨_, rfl⟩
          have hr2l : r2.length = WW := by rw [hr2, List.length_set]; exact hrl
          have hr264 : ∀ y ∈ r2, y < 2 ^ 64 := fun y hy => by
            rw [hr2] at hy
            rcases List.mem_or_eq_of_mem_set hy with hy | rfl
            · exact hr64 y hy
            · exact clrW_lt _ _
          have hlp : ∀ v, LastW r2 v → LastP S i v := fun v hv => lastP_of hr hx hx64 (by rw [← hr2]; exact hv)
          rw [← hr2, hrl] at htk
          have hwr1 : Wr (fun y => y = W2.heap.size) V1 wr := Wr.low HB12.out hwr (fun y hy q => by
            rcases q with q | q
            · have := HS.out.low y q; omega
            · exact q)
          obtain ⟨gN, offN, rfl, hg1, hg2, hcell⟩ := (HROW.out.keeps hwr1 (fun y hy => by omega)).get rfl (k := i) (by simpa using hio)
          rw [List.getElem_map] at hcell
          have hok : o[i]? = some o[i] := List.getElem?_eq_getElem hio
          have hkk : ∀ t, t < o.length → ∃ y, o[t]? = some y ∧ wr.cell? ⟨gN, offN + t, none⟩ = some (.int .i64 (y : Int)) := fun t ht => by
            obtain ⟨gN2, offN2, e2, _, _, h5⟩ := (HROW.out.keeps hwr1 (fun y hy => by omega)).get rfl (k := t) (by simpa using ht)
            cases e2
            rw [List.getElem_map] at h5
            exact ⟨o[t], List.getElem?_eq_getElem ht, h5⟩
          generalize o[i] = n at hcell hok
          have hnN : n < k := by rw [HN.out]; exact HO.out.lt HG.out hok
          have hHS : ∀ w7, Wr (fun y => y = b) wr w7 → w7.heap[b]? = some (.cells (u64A r2) 70 (0, 0)) → (SetM w7 V1.heap.size gS m WW bs (S'.set i r2) ∧ (∀ j, i + 1 ≤ j → (S'.set i r2)[j]? = S[j]?) ∧ Wr (fun y => y ∈ bs ∨ y = W2.heap.size) V2 w7 ∧ w7.heap[W2.heap.size]? = some (.cells (intA D) 3 (0, 0)) ∧ (∀ t, t < o.length → ∃ y, o[t]? = some y ∧ w7.cell? ⟨gN, offN + t, none⟩ = some (.int .i64 (y : Int)))) := fun w7 hw7 hr7 => by
            have hbl := hS'.low b hbm
            refine ⟨hS'.setRow hb hw7 hr7 hr2l rfl, fun j hj => by rw [List.getElem?_set, if_neg (by omega)]; exact hSS j (by omega), hwr.trans (hw7.mono (fun y hy => .inl (hy ▸ hbm))), (hw7.block _ (by omega) (by omega)).trans hD, fun t ht => ?_⟩
            obtain ⟨y, h1, h2⟩ := hkk t ht
            have : gN < V1.heap.size := by
              obtain ⟨ao2, cap2, e2, h3⟩ := HROW.out
              obtain ⟨g3, o3, e3, _, h4, _⟩ := h3 (by simp; omega)
              cases e2
              cases e3
              exact h4
            exact ⟨y, h1, (World.cell?_of_block (hw7.block gN hg2 (by omega))).trans h2⟩
          have HSX := Lib.hid hHS
          have HTK := Lib.hid htk
          have HLP := Lib.hid hlp
          have HDI := Lib.hid hDI
          have HOK := Lib.hid hok
          have HLA := Lib.hid (fun (u : World) (hu : u.heap[b]? = some (.cells (u64A r2) 70 (0, 0))) => flast_any b r2 u hu (by rw [hr2l]; exact hW8) hr264)
          rw [hr2l] at HLA
          have HUP := Lib.hid (HF.out.upper HO.out i hio)
          clear hS' hSS hD hDI hwr HR hfa hop hb hr hr' hrl hr64 hxl hx hx64 hrow htk hbm hr2 hr2l hr264 hlp hwr1 hok hkk hHS hio hWW hW8
          go_wp2_with fail
          refine HTK.out.mono ?_; rintro e w7 ⟨rfl, hr7, hw7⟩
          have HW7 := Lib.hid (HSX.out w7 hw7 hr7)
          have HL7 := Lib.hid (HLA.out w7 hr7)
          have hs7 := hw7.size
          clear hr7 hw7
          go_wp2_with fail
          refine HL7.out.mono ?_; rintro e w8 ⟨⟨v, rfl, hlw⟩, rfl⟩
          have hP := HLP.out v hlw
          by_cases hv1 : v = -1
          · subst hv1
            have HQ := Lib.hid (show DomI g.blocks o S (i + 1) D from HDI.out.none HO.out.nodup HOK.out (by rw [← HN.out]; exact hnN) hP)
            clear hP hlw
            go_wp2_with fail
            go_roundw
            case rel => exact ⟨i + 1, by omega, by go_num, Lib.hid ⟨_, D, HW7.out.1, HW7.out.2.1, HW7.out.2.2.2.1, HQ.out, HW7.out.2.2.1⟩⟩
            case measure => simp [intOf] <;> omega
          · have hvt : ∃ t : Nat, v = (t : Int) ∧ t ≤ i := by
              rcases hP with ⟨q, _⟩ | ⟨t, rfl, h1, h2, _⟩
              · exact absurd q hv1
              · exact ⟨t, rfl, HUP.out t h2⟩
            obtain ⟨t, rfl, hti⟩ := hvt
            have hmo := HM.out
            obtain ⟨y, hy, ct⟩ := HW7.out.2.2.2.2 t (by omega)
            obtain ⟨n2, hn2, cn⟩ := HW7.out.2.2.2.2 i (by omega)
            rw [HOK.out] at hn2; cases hn2
            have hDl := HDI.out.len
            obtain ⟨z, hz⟩ : ∃ z, D[n]? = some z := ⟨_, List.getElem?_eq_getElem (by rw [hDl, ← HN.out]; exact hnN)⟩
            have cd := intA_at HW7.out.2.2.2.1 hz
            have fd := Lib.frozen_of_heap HW7.out.2.2.2.1 n
            have hset := intA_set HW7.out.2.2.2.1 n (y : Int)
            have hgb7 := HS.out.lowS
            have hput := HDI.out.put HO.out.nodup HOK.out (by rw [← HN.out]; exact hnN) hP hy
            have HQ := Lib.hid (show ∃ S' D', SetM ((w7.setCell ⟨W2.heap.size, n, none⟩ (.int .i64 (y : Int))).drew) V1.heap.size gS m WW bs S' ∧ (∀ j, i + 1 ≤ j → S'[j]? = S[j]?) ∧ ((w7.setCell ⟨W2.heap.size, n, none⟩ (.int .i64 (y : Int))).drew).heap[W2.heap.size]? = some (.cells (intA D') 3 (0, 0)) ∧ DomI g.blocks o S (i + 1) D' ∧ Wr (fun x => x ∈ bs ∨ x = W2.heap.size) V2 ((w7.setCell ⟨W2.heap.size, n, none⟩ (.int .i64 (y : Int))).drew) from
              ⟨_, D.set n (y : Int), by
                have h7 := HW7.out.1
                have q := fun (x : Nat) (c : Obj) (hx : x ≠ W2.heap.size) (e : w7.heap[x]? = some c) => (Below.heap_setCell w7 ⟨W2.heap.size, n, none⟩ (.int .i64 (y : Int)) x hx).trans e
                exact ⟨q _ _ (by omega) h7.row, h7.len, fun j b' r' e1 e2 => q _ _ (by have := h7.low b' (List.mem_of_getElem? e1); omega) (h7.at' j b' r' e1 e2), h7.rlen, h7.low, h7.nodup, h7.notin, h7.lowS⟩, HW7.out.2.1, hset, hput, (HW7.out.2.2.1.trans (Wr.set (S := fun x => x ∈ bs ∨ x = W2.heap.size) (i := n) w7 (.inr rfl) (.int .i64 (y : Int)))).drew⟩)
            have dv : ((t : Int) != -1) = true := by simp only [bne_iff_ne, ne_eq]; omega
            have htm : t < m := by omega
            have hgNs : gN < w7.heap.size := by omega
            clear hP hlw hv1 hy hDl hz hset hput hmo
            go_wp2_with fail
            refine wp_region_late (S := SameTo w7.heap.size w7) (fun j => decide (9 ≤ j)) (by kernel_rfl) (SameTo.drew _ _) (fun hSw => ?_)
            refine lH 0 (.slice (some ⟨W2.heap.size, 0, none⟩) k k) hSw ?_
            try simp only [nS]
            refine lH 1 (.slice (some ⟨gN, offN, none⟩) m cap) hSw ?_
            try simp only [nS]
            refine lH 2 (.int .i64 (i : Int)) hSw ?_
            try simp only [nS]
            refine lH 3 (.pointer (some ⟨gN, offN + i, none⟩)) hSw ?_
            try simp only [nS]
            refine lG 4 (.int .i64 (n : Int)) hSw (fun W hW => ?_) ?_
            · have cn := hW.cell (by dsimp only; omega) cn
              first | (go_simp; done) | rfl
            try simp only [nS]
            refine lH 5 (.slice (some ⟨gN, offN, none⟩) m cap) hSw ?_
            try simp only [nS]
            refine lH 6 (.int .i64 (t : Int)) hSw ?_
            try simp only [nS]
            refine lH 7 (.pointer (some ⟨gN, offN + t, none⟩)) hSw ?_
            try simp only [nS]
            refine lG 8 (.int .i64 (y : Int)) hSw (fun W hW => ?_) ?_
            · have ct := hW.cell (by dsimp only; omega) ct
              first | (go_simp; done) | rfl
            try simp only [nS]
            refine wpAnyL_only (rs := [9]) (by kernel_rfl) (by simp) (by rfl) ?_
            refine oR 9 (fun J hK => ?_)
            go_simp
            refine hK.out _ _ ?_
            clear hK J
            try simp only [nS]
            refine oR 10 (fun J hK => ?_)
            go_simp
            refine hK.out _ _ ?_
            clear hK J
            try simp only [nS]
            refine wpAny_done (by kernel_rfl) ?_ _
            go_wp2_with fail
            go_roundw
            case rel => exact ⟨i + 1, by omega, by go_num, HQ⟩
            case measure => simp [intOf] <;> omega
        · have him : i = m := by omega
          subst him
          rw [HM.out] at hDI
          have HE := Lib.hid (show DmE g.blocks w (.returned (.tuple #[.slice (some ⟨W2.heap.size, 0, none⟩) g.blocks.length g.blocks.length, .int .i64 0])) wr from
            ⟨o, D, _, rfl, by omega, hD, HO.out, by have := HM.out; have := HN.out; omega, domP_of HF.out HO.out hDI, HBV2.out.trans (hwr.below (fun x hx => by
              rcases hx with hx | hx
              · have := HS.out.low x hx; omega
              · omega) (by omega))⟩)
          rw [← HN.out] at HE
          clear hS' hSS hD hDI hwr HR
          go_wp2_with fail
          go_ret2
          exact HE.out
end Go.Proofs.Ytgkjhnghibpeoaa
