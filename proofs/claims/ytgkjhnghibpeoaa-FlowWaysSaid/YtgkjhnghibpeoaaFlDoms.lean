/- Which blocks lead to each, told. -/
import Derived.Test.YtgkjhnghibpeoaaRows
import Derived.Test.YtgkjhnghibpeoaaFlAhd
import Derived.Lib.AppendZeros
import Derived.Test.YtgkjhnghibpeoaaIrSizes
import Derived.Test.YtgkjhnghibpeoaaFlMem
import Derived.Test.YtgkjhnghibpeoaaParseOrder
import Derived.LoopTactic
import Derived.LoopN
import Derived.Deep.LoopGhost
import Derived.WalkKit
import Derived.WalkSpells
import Derived.WalkLawsBesides
import Derived.Lib.Hide
import Derived.OrdersHeld
import Derived.Deep.RegionHeld
import Derived.Deep.DrawnRows
import Derived.RegionTactic
import Derived.Deep.RegionHeld3
import Derived.IntWalk
import Derived.Deep.QuietTactic
import Derived.BigQuiet
import Derived.Test.YtgkjhnghibpeoaaFlDomW
namespace Go.Proofs.Ytgkjhnghibpeoaa
open Go.RowKit
set_option maxRecDepth 1000000
attribute [local go_sem ↓] bld_eq bls_eq


/-- What Ahead answers. -/
def AhE (bl : List Bk) (w : World) (e : Ending) (w' : World) : Prop := ∃ gA vs A R lo, e = .returned (.tuple #[.slice (some ⟨gA, 0, none⟩) bl.length bl.length, .int .i64 0]) ∧ w.heap.size ≤ gA ∧ AhdM w' lo gA bl.length vs A ∧ w.heap.size ≤ lo ∧ (∀ x, bitAt R x = true ↔ Rc bl x) ∧ AhdI bl R bl.length A ∧ Below w.heap.size w w'
set_option maxHeartbeats 32000000 in
theorem ahead_any (B : Nat) (g : Gr) (w : World) (hI : GIn w B g) (hBw : B ≤ w.heap.size) (hm : mayB g = true) :
    Calls Try.prog 7 #[.agg #[g.rv, .int .i64 g.sites, g.bv]] w (AhE g.blocks w) := by
  have hg := fok_of hm
  obtain ⟨bo, bcp, eb, hbl, hbg⟩ := hI.blies.form
  obtain ⟨N, hN⟩ : ∃ N, N = g.blocks.length := ⟨_, rfl⟩
  rw [← hN] at eb hbg
  have hn8 : N ≤ 4096 := by rw [hN]; exact hg.room
  have HI := Lib.hid hI
  have HG := Lib.hid hg
  have HN := Lib.hid hN
  have HEB := Lib.hid eb
  obtain ⟨rv, hrv⟩ : ∃ x, x = g.rv := ⟨_, rfl⟩
  obtain ⟨st, hst⟩ : ∃ x, x = g.sites := ⟨_, rfl⟩
  have HRR := Lib.hid (And.intro hrv hst)
  rw [eb, ← hrv, ← hst]
  obtain ⟨q0, q1, q2⟩ := own3 (MapKept.heap_alloc w (.cells #[rv, .int .i64 st, .slice bo N bcp] 25)).1
  obtain ⟨W1, hW1⟩ : ∃ W1, W1 = w.alloc (.cells #[rv, .int .i64 st, .slice bo N bcp] 25) := ⟨_, rfl⟩
  have hb1 : Below w.heap.size w W1 := by rw [hW1]; exact below_box w _
  have hz1 : W1.heap.size = w.heap.size + 1 := by rw [hW1]; simp
  have hG1 : W1.heap[w.heap.size]? = some (.cells #[rv, .int .i64 st, .slice bo N bcp] 25 (0, 0)) := by rw [hW1]; exact (MapKept.heap_alloc _ _).1
  have hmb := may_any B g W1 (hI.keeps (hb1.mono hBw)) (by omega)
  rw [eb, ← hrv, ← hst] at hmb
  have HMB := Lib.hid hmb
  have HW1 := Lib.hid hW1
  have HB1 := Lib.hid hb1
  have HG1 := Lib.hid hG1
  rw [hm] at HMB
  have m1 := make_rows N (by omega)
  obtain ⟨M1, hM1⟩ : ∃ M, M = (List.replicate N (Value.slice none 0 0)).toArray := ⟨_, rfl⟩
  rw [← hM1] at m1
  have HM1 := Lib.hid hM1
  clear hI hg hN eb hrv hst hbl hW1 hb1 hG1 hmb hM1
  go_enter Try.func7, Try.ntmps7
  go_wp2_with fail
  rw [← HW1.out]
  clear q0 q1 q2
  refine HMB.out.mono ?_; rintro e W2 ⟨rfl, hb2⟩
  have hs2 := hb2.size
  obtain ⟨q0, q1, q2⟩ := own3 ((hb2.block w.heap.size (by omega)).trans HG1.out)
  obtain ⟨W3, hW3⟩ : ∃ W3, W3 = W2.alloc (.cells M1 26) := ⟨_, rfl⟩
  have hD3 : W3.heap[W2.heap.size]? = some (.cells (List.replicate N (Value.slice none 0 0)).toArray 26 (0, 0)) := by rw [hW3, HM1.out]; exact (MapKept.heap_alloc _ _).1
  have hz3 : W3.heap.size = W2.heap.size + 1 := by rw [hW3]; simp
  have hb23 : Below W2.heap.size W2 W3 := by rw [hW3]; exact below_box W2 _
  have hb3 := (HB1.out.trans (hb2.mono (by omega))).trans (hb23.mono (by omega))
  have hor := reached_any B g W3 HG.out (HI.out.keeps (hb3.mono hBw)) (by omega)
  rw [HEB.out, ← HRR.out.1, ← HRR.out.2] at hor
  have HOR := Lib.hid hor
  have HG3 := Lib.hid ((hb23.block w.heap.size (by omega)).trans ((hb2.block w.heap.size (by omega)).trans HG1.out))
  have HB3 := Lib.hid hb3
  have HD3 := Lib.hid hD3
  have HW3 := Lib.hid hW3
  have hlw : w.heap.size < W2.heap.size := by omega
  clear hb2 hD3 hW3 hb23 hb3 hor
  go_wp2_with fail
  rw [← HW3.out]
  clear q0 q1 q2
  refine HOR.out.mono ?_; rintro e W5 ⟨R, gR, rfl, hgR, hR, hRl, hRm, hb5⟩
  rw [← HN.out] at hRl ⊢
  have hs5 := hb5.size
  have hgRs : gR < W5.heap.size := (Array.getElem?_eq_some_iff.1 hR).1
  have hA5 : AhdM W5 W5.heap.size W2.heap.size N (List.replicate N (.slice none 0 0)) (List.replicate N []) := by
    have hnil : ∀ (y : Nat) (v : Value), (List.replicate N (Value.slice none 0 0))[y]? = some v → v = .slice none 0 0 := fun y v h => by
      rw [List.getElem?_replicate] at h
      split at h
      · cases h; rfl
      · cases h
    refine ⟨(hb5.block _ (by omega)).trans HD3.out, by simp, by simp, fun y v r h1 h2 => ?_, fun y y' v v' k _ h1 _ hk => ?_, fun y v h1 => ?_⟩
    · rw [hnil y v h1]
      rw [List.getElem?_replicate] at h2
      split at h2
      · cases h2; exact World.ownsRow_nil _ _ _ _
      · cases h2
    · rw [hnil y v h1] at hk; cases hk
    · rw [hnil y v h1]; intro q; cases q
  have HA5 := Lib.hid hA5
  have HR5 := Lib.hid hR
  have HRL := Lib.hid hRl
  have HRM := Lib.hid hRm
  have HG5 := Lib.hid ((hb5.block w.heap.size (by omega)).trans HG3.out)
  have HB5 := Lib.hid (HB3.out.trans (hb5.mono (by omega)))
  clear hA5 hR hRl hRm hb5
  go_wp2_with fail
  go_loopw [19] (fun q wr => ∃ k : Nat, k ≤ N ∧ q = .int .i64 (k : Int) ∧ Hid (∃ vs A, AhdM wr W5.heap.size W2.heap.size N vs A ∧ AhdI g.blocks R k A ∧ Wr (fun b => b = W2.heap.size) W5 wr)) (fun q _ => N - (intOf q).toNat)
  case atStart => exact ⟨0, Nat.zero_le _, rfl, Lib.hid ⟨_, _, HA5.out, by
    have h := AhdI.start g.blocks R
    rw [← HN.out] at h
    exact h, Wr.refl _ _⟩⟩
  case round =>
    rename World => V
    obtain ⟨k, hk, rfl, HR⟩ := hrel
    obtain ⟨vs, A, hAM, hAI, hwr⟩ := HR.out
    have hzr := hwr.size
    by_cases hlk : k < N
    · obtain ⟨bv, hbv⟩ : ∃ bv, R[k]? = some bv := ⟨_, List.getElem?_eq_getElem (by rw [HRL.out]; exact hlk)⟩
      have cR := boolA_at ((hwr.block gR hgRs (by omega)).trans HR5.out) hbv
      have hbe := bitAt_some hbv
      cases bv with
      | false =>
        have HQ := Lib.hid (And.intro hAM (And.intro (hAI.skip hbe) hwr))
        clear hAM hAI hwr HR hbv hbe
        go_wp2_with fail
        go_roundw
        case rel => exact ⟨k + 1, by omega, by go_num, Lib.hid ⟨_, _, HQ.out.1, HQ.out.2.1, HQ.out.2.2⟩⟩
        case measure => simp [intOf]; omega
      | true =>
        have hnl : k < g.blocks.length := by rw [← HN.out]; exact hlk
        have hbV : Below w.heap.size w V := HB5.out.trans (hwr.below (fun x hx => by omega) (by omega))
        have hIV := HI.out.keeps (hbV.mono hBw)
        obtain ⟨go, off, rfl, hgo⟩ := hbg (by omega)
        have hat := (hIV.blies.at HEB.out k hnl).2
        have hbi := hIV.blocks _ (List.getElem_mem hnl)
        have hbt : g.blocks[k]? = some g.blocks[k] := List.getElem?_eq_getElem hnl
        generalize g.blocks[k] = bk at hat hbi hbt
        obtain ⟨io, icap, eiv, -, -⟩ := hbi.lies.form
        have HNX := Lib.hid (fnext_any bk V ⟨_, _, _, eiv⟩)
        obtain ⟨IL, hIL⟩ : ∃ x, x = bk.ins.length := ⟨_, rfl⟩
        rw [← hIL] at eiv
        have hgV := (hwr.block w.heap.size (by omega) (by omega)).trans HG5.out
        obtain ⟨p0, p1, p2, p3, p4⟩ := bc hat
        rw [eiv] at p0 HNX
        obtain ⟨q0, q1, q2⟩ := own3 hgV
        have hgw : go < w.heap.size := by omega
        have HAM := Lib.hid hAM
        have HAI := Lib.hid hAI
        have HWR := Lib.hid hwr
        have HBT := Lib.hid hbt
        have HBE := Lib.hid hbe
        clear hAM hAI hwr HR hbV hIV hat hbi hbt eiv hbv hbe hIL hgV
        go_wp2_with fail
        refine HNX.out.mono ?_; rintro e V2 ⟨v2, rfl, hrow2, hb6⟩
        obtain ⟨ao2, cap2, rfl⟩ := hrow2.form
        have hc2 := nextF_len bk
        obtain ⟨c2, hcc⟩ : ∃ c, c = (nextF bk).length := ⟨_, rfl⟩
        rw [← hcc] at hc2 ⊢
        have hs6 := hb6.size
        have HC2 := Lib.hid hcc
        have HROW2 := Lib.hid hrow2
        have HB6 := Lib.hid hb6
        clear hrow2 hb6 hcc p0 p1 p2 p3 p4 q0 q1 q2 cR
        go_wp2_with fail
        go_loopw [33] (fun q wr => ∃ i : Nat, i ≤ c2 ∧ q = .int .i64 (i : Int) ∧ Hid (∃ vs A, AhdM wr W5.heap.size W2.heap.size N vs A ∧ AhdJ g.blocks R k ((nextF bk).take i) A ∧ Wr (fun b => b = W2.heap.size ∨ (W5.heap.size ≤ b ∧ b < V.heap.size)) V2 wr ∧ (∀ (y : Nat) (v : Value) (x : Nat), vs[y]? = some v → v.ownBlock = some x → x < V.heap.size ∨ V2.heap.size ≤ x))) (fun q _ => c2 - (intOf q).toNat)
        case atStart => exact ⟨0, Nat.zero_le _, rfl, Lib.hid ⟨vs, A, HAM.out.keeps HB6.out, HAI.out.begin, Wr.refl _ _, fun y v x h1 h2 => .inl (by
          obtain ⟨r, hr⟩ : ∃ r, A[y]? = some r := ⟨_, List.getElem?_eq_getElem (by rw [HAM.out.len, ← HAM.out.vlen]; exact some_lt h1)⟩
          exact ((HAM.out.own y v r h1 hr).lt x h2).2)⟩⟩
        case round =>
          obtain ⟨i, hi, rfl, HR2⟩ := hrel
          obtain ⟨vs2, A2, hM2, hJ, hwr2, hfar⟩ := HR2.out
          have hzr2 := hwr2.size
          by_cases hli : i < c2
          · have hix : i < (nextF bk).length := by rw [← HC2.out]; exact hli
            obtain ⟨gM, offM, rfl, hgm1, hgm2, hcell⟩ := (HROW2.out.keeps hwr2 (fun x hx => by omega)).get rfl hix
            have hyl := HG.out.lt HBT.out (List.getElem_mem hix)
            have htk : (nextF bk).take (i + 1) = (nextF bk).take i ++ [(nextF bk)[i]] := by rw [List.take_succ_eq_append_getElem hix]
            have hnd : (nextF bk)[i] ∉ (nextF bk).take i := fun hh => by
              obtain ⟨j, hj⟩ := List.mem_iff_getElem?.1 hh
              rw [List.getElem?_take] at hj
              split at hj
              · rename_i hji
                have hj2 := some_lt hj
                rw [List.getElem?_eq_getElem hj2] at hj
                injection hj with hj
                exact absurd hj ((List.pairwise_iff_getElem.1 (nextF_nodup bk)) j i hj2 hix hji)
              · cases hj
            generalize (nextF bk)[i] = y at hcell hyl htk hnd
            obtain ⟨y0, rfl⟩ : ∃ y0 : Nat, y = (y0 : Int) := ⟨y.toNat, by omega⟩
            have hyN : y0 < N := by rw [HN.out]; omega
            obtain ⟨v, hv⟩ : ∃ v, vs2[y0]? = some v := ⟨_, List.getElem?_eq_getElem (by rw [hM2.vlen]; exact hyN)⟩
            obtain ⟨hAy, hJ'⟩ := hJ.put (y := (y0 : Int)) (by omega) (by omega) hnd
            rw [Int.toNat_natCast] at hAy hJ'
            rw [← htk] at hJ'
            have hrl := ahdR_len g.blocks R k y0
            generalize ahdR g.blocks R k y0 = r at hAy hJ' hrl
            obtain ⟨gq, cap3, w8, hrun, hc8, hf8, hz8, hM9, hw9, hgq⟩ := hM2.push (n := k) (by omega) hv hAy (by omega)
            have cA : wr.cell? ⟨W2.heap.size, y0, none⟩ = some v := by rw [Lib.cell_of_heap hM2.row]; simpa using hv
            have hA2s : W2.heap.size < wr.heap.size := by omega
            obtain ⟨av, nv, cv, hvf⟩ : ∃ a n c, v = .slice a n c := by
              rcases (hM2.own y0 v r hv hAy).2 with ⟨q, _⟩ | ⟨_, _, _, q, _⟩
              · exact ⟨_, _, _, q⟩
              · exact ⟨_, _, _, q⟩
            have e1 := bls_of 26 3 1 1 #[(0, .int .i64 (k : Int))] #[.int .i64 (k : Int)] (by kernel_rfl) (by kernel_rfl) (by kernel_rfl) (by decide) (by decide) (by kernel_rfl) (by kernel_rfl) wr
            have hfar' : ∀ (y : Nat) (v' : Value) (x : Nat), (vs2.set y0 (.slice (some ⟨gq, 0, none⟩) (r.length + 1) cap3))[y]? = some v' → v'.ownBlock = some x → x < V.heap.size ∨ V2.heap.size ≤ x := fun y v' x h1 h2 => by
              rw [List.getElem?_set] at h1
              by_cases e : y0 = y
              · rw [if_pos e, if_pos (by rw [hM2.vlen]; exact hyN)] at h1
                cases h1
                have h3 : gq = x := by simpa [Value.ownBlock] using h2
                subst h3
                rcases hgq with q | q
                · exact hfar y0 v _ hv q
                · exact .inr (by omega)
              · rw [if_neg e] at h1
                exact hfar y v' x h1 h2
            have hwr9 := hwr2.comp hw9 (fun x hx q => by
              rcases q with q | q
              · exact .inl q
              · have h1 := ((hM2.own y0 v r hv hAy).lt x q).1
                rcases hfar y0 v x hv q with h2 | h2
                · exact .inr ⟨h1, h2⟩
                · omega)
            have HQ := Lib.hid (And.intro hM9 (And.intro hJ' (And.intro hwr9 hfar')))
            subst hvf
            have HRUN := Lib.hid hrun
            obtain ⟨RL, hRLe⟩ : ∃ x, x = r.length + 1 := ⟨_, rfl⟩
            rw [← hRLe] at HRUN HQ
            clear hM2 hJ hwr2 hfar HR2 hix hyl htk hnd hv hAy hJ' hrl hrun hM9 hw9 hgq hfar' hwr9 hRLe
            go_wp2_with (at_builtin; refine Lib.wpList_append_run _ rfl _ _ _ _ rfl _ _ rfl rfl _ _ HRUN.out ?_)
            go_roundw
            case rel => exact ⟨i + 1, by omega, by go_num, Lib.hid ⟨_, _, HQ.out.1, HQ.out.2.1, HQ.out.2.2.1, HQ.out.2.2.2⟩⟩
            case measure => simp [intOf]; omega
          · rw [List.take_of_length_le (by rw [← HC2.out]; omega)] at hJ
            have HQ := Lib.hid (And.intro hM2 (And.intro (hJ.next HBT.out HBE.out) (Wr.comp (HWR.out.trans (Wr.of HB6.out)) hwr2 (fun x hx q => by
              rcases q with q | ⟨q, _⟩
              · exact q
              · omega))))
            clear hM2 hJ hwr2 hfar HR2
            go_wp2_with fail
            go_roundw
            case rel => exact ⟨k + 1, by omega, by go_num, Lib.hid ⟨_, _, HQ.out.1, HQ.out.2.1, HQ.out.2.2⟩⟩
            case measure => simp [intOf]; omega
    · have hkN : k = N := by omega
      subst hkN
      rw [HN.out] at hAI
      have HE := Lib.hid (show AhE g.blocks w (.returned (.tuple #[.slice (some ⟨W2.heap.size, 0, none⟩) g.blocks.length g.blocks.length, .int .i64 0])) V from
        ⟨_, vs, A, R, W5.heap.size, rfl, by omega, by rw [← HN.out]; exact hAM, by omega, HRM.out, hAI, HB5.out.trans (hwr.below (fun x hx => by omega) (by omega))⟩)
      rw [← HN.out] at HE
      clear hAM hAI hwr HR
      go_wp2_with fail
      go_ret2
      exact HE.out
end Go.Proofs.Ytgkjhnghibpeoaa
namespace Go.Proofs.Ytgkjhnghibpeoaa
open Go.RowKit
set_option maxRecDepth 100000
attribute [local go_sem ↓] bld_eq bls_eq

theorem made_int (n : Int) (w : World) : (bls 26 1 #[(0, .int .i64 n)]).run Try.prog w = .ok (.slice (some ⟨w.heap.size, 0, none⟩) 1 1) (w.alloc (.cells #[.int .i64 n] 3)) := bls_of 26 3 1 1 #[(0, .int .i64 n)] #[.int .i64 n] (by kernel_rfl) (by kernel_rfl) (by kernel_rfl) (by omega) (by omega) (by kernel_rfl) (by kernel_rfl) w
set_option maxHeartbeats 1000000 in
theorem beyond_any (b : Nat) (n : Int) (T : TypeId) (fr : Nat × Nat) (w : World) (h0 : 0 ≤ n) (h1 : n ≤ 262145) (h : w.heap[b]? = some (.cells #[.int .i64 n] T fr)) :
    Calls Try.prog 4 #[.slice (some ⟨b, 0, none⟩) 1 1] w fun e w' => e = .returned (.bool (decide (262144 < n))) ∧ w = w' := by
  have hc : w.cell? ⟨b, 0, none⟩ = some (.int .i64 n) := by rw [Lib.cell_of_heap h]; rfl
  clear h
  by_cases hn : 262144 < n
  · have HD := Lib.hid (decide_eq_true hn)
    go_enter Try.func4, Try.ntmps4
    go_wp2_with fail
    refine wp_loop_rounds 2 ?_
    rw [rounds_succ]
    go_wp2_with fail
    go_ret
    exact ⟨by rw [HD.out]; rfl, rfl⟩
  · have HD := Lib.hid (decide_eq_false hn)
    go_enter Try.func4, Try.ntmps4
    go_wp2_with fail
    refine wp_loop_rounds 2 ?_
    rw [rounds_succ]
    go_wp2_with fail
    rw [rounds_succ]
    go_wp2_with fail
    go_ret
    exact ⟨by rw [HD.out]; rfl, rfl⟩
/-- A size: no more than so much. -/
def SizeE (e : Ending) : Prop := ∃ n : Int, e = .returned (.int .i64 n) ∧ 0 ≤ n ∧ n ≤ 262145
theorem counted_any (r : Int) (h0 : -9223372036854775808 ≤ r) (h1 : r ≤ 262144) (w : World) : Calls Try.prog 12 #[.int .i64 r] w fun e w' => SizeE e ∧ w = w' := by
  by_cases h : r < 0
  · go_enter Try.func12, Try.ntmps12
    go_wp2_with fail
    go_ret
    exact ⟨⟨262145, rfl, by omega, by omega⟩, rfl⟩
  · go_enter Try.func12, Try.ntmps12
    go_wp2_with fail
    go_ret
    exact ⟨⟨262144 - r, rfl, by omega, by omega⟩, rfl⟩
set_option maxHeartbeats 8000000 in
theorem gsize_any (B : Nat) (g : Gr) (w : World) (hI : GIn w B g) (hBw : B ≤ w.heap.size) :
    Calls Try.prog 5 #[.agg #[g.rv, .int .i64 g.sites, g.bv]] w fun e w' => SizeE e ∧ Below w.heap.size w w' := by
  have r1 := hI.rlies.room
  have r2 := hI.blies.room
  obtain ⟨ro, rc, er, hrl, -⟩ := hI.rlies.form
  obtain ⟨bo, bcp, eb, hbl, hbg⟩ := hI.blies.form
  have HBL := Lib.hid hI.blies
  have HBI := Lib.hid hI.blocks
  clear hI
  obtain ⟨rv, refs, sites, bv, blocks⟩ := g
  simp only at *
  subst er eb
  obtain ⟨N1, hN1⟩ : ∃ N, N = refs.length := ⟨_, rfl⟩
  obtain ⟨N2, hN2⟩ : ∃ N, N = blocks.length := ⟨_, rfl⟩
  rw [← hN1, ← hN2]
  rw [← hN1] at hrl r1
  rw [← hN2] at hbl r2 hbg HBL
  obtain ⟨W0, hW0⟩ : ∃ W0, W0 = w.alloc (.cells #[.slice ro N1 rc, .int .i64 sites, .slice bo N2 bcp] 25) := ⟨_, rfl⟩
  have hB0 : Below w.heap.size w W0 := by rw [hW0]; exact below_box w _
  have hlt0 : w.heap.size + 1 = W0.heap.size := by rw [hW0]; simp
  have hO : W0.heap[w.heap.size]? = some (.cells #[.slice ro N1 rc, .int .i64 sites, .slice bo N2 bcp] 25 (0, 0)) := by rw [hW0]; exact (MapKept.heap_alloc _ _).1
  obtain ⟨q0, q1, q2⟩ := own3 hO
  rw [hW0] at q0 q1 q2
  have HN2 := Lib.hid hN2
  have HG2 := Lib.hid hbg
  have HB0 := Lib.hid hB0
  have HZ0 := Lib.hid hlt0
  have HO := Lib.hid hO
  have HW0 := Lib.hid hW0
  clear hN1 hN2 hbg hB0 hlt0 hO hW0
  go_enter Try.func5, Try.ntmps5
  go_wp2_with fail
  rw [← HW0.out]
  clear q0 q1 q2
  go_loopw [3, 4] (fun m q wr => ∃ k : Nat, k ≤ N2 ∧ q = .int .i64 k ∧ ∃ r : Int, m = .int .i64 r ∧ -600000000000000 ≤ r ∧ r ≤ 262144 ∧ Below W0.heap.size W0 wr) (fun _ q _ => N2 - (intOf q).toNat)
  case atStart => exact ⟨0, by omega, rfl, 262144 - (N1 : Int) - (N2 : Int), rfl, by omega, by omega, Below.refl _ _⟩
  case round =>
    obtain ⟨k, hkN, rfl, r, rfl, hr0, hr1, hB⟩ := hrel
    have hsr := hB.size
    have hBw' : Below w.heap.size w wr := HB0.out.trans (hB.mono (by have := HZ0.out; omega))
    have hsz : w.heap.size < wr.heap.size := by have := HZ0.out; omega
    have hOr := (hB.block w.heap.size (by have := HZ0.out; omega)).trans HO.out
    obtain ⟨q0, q1, q2⟩ := own3 hOr
    clear hOr
    by_cases hlt2 : k < N2 ∧ 0 ≤ r
    · obtain ⟨hlt2, hrp⟩ := hlt2
      obtain ⟨g, off, rfl, hg⟩ := HG2.out (by omega)
      have hka : k < blocks.length := by rw [← HN2.out]; exact hlt2
      have hat := ((HBL.out.below (hBw'.mono hBw)).at rfl k hka).2
      have ha := HBI.out _ (List.getElem_mem hka)
      generalize blocks[k] = a at hat ha
      have hgs : g < wr.heap.size := by omega
      obtain ⟨p0, p1, p2, p3, p4⟩ := bc hat
      obtain ⟨ao, ac, ea, -⟩ := ha.lies.form
      have hra := ha.lies.room
      rw [ea] at p0
      have HB := Lib.hid hB
      clear hka hat ha ea hB hBw' p1 p2 p3 p4
      go_wp2_with fail
      go_roundw
      case rel => exact ⟨k + 1, by omega, by go_num, r - (a.ins.length : Int), by go_num, by omega, by omega, HB.out⟩
      case measure => simp [intOf]; omega
    · have hor : ¬ k < N2 ∨ (k < N2 ∧ r < 0) := by
        by_cases h : k < N2
        · exact .inr ⟨h, by by_cases h2 : 0 ≤ r; exact absurd ⟨h, h2⟩ hlt2; omega⟩
        · exact .inl h
      have HB9 := Lib.hid hBw'
      have HC := Lib.hid (counted_any r (by omega) hr1 wr)
      clear hlt2 hB hBw'
      rcases hor with hor | ⟨hor, hneg⟩
      all_goals
        go_wp2_with fail
        refine HC.out.mono ?_; rintro e w3 ⟨⟨n, rfl, hn0, hn1⟩, rfl⟩
        go_wp2_with fail
        go_ret
        exact ⟨⟨n, rfl, hn0, hn1⟩, HB9.out⟩
end Go.Proofs.Ytgkjhnghibpeoaa
namespace Go.Proofs.Ytgkjhnghibpeoaa
open Go.RowKit
set_option maxRecDepth 1000000
attribute [local go_sem ↓] bld_eq bls_eq


theorem bitAt_get {l : List Bool} {n : Nat} (h : bitAt l n = true) : l[n]? = some true := by
  unfold bitAt at h
  cases e : l[n]? with
  | none => rw [e] at h; simp at h
  | some v => rw [e] at h; simp at h; rw [h]
theorem ahd_nil {bl : List Bk} {R : List Bool} (hR : ∀ x, bitAt R x = true ↔ Rc bl x) {k y : Nat} (hy : ¬ Rc bl y) : ahdR bl R k y = [] := by
  unfold ahdR
  rw [List.filter_eq_nil_iff]
  intro n _ hh
  simp only [Bool.and_eq_true] at hh
  have h1 := (hR n).1 hh.1
  have h2 := hh.2
  unfold goesB at h2
  cases hb : bl[n]? with
  | none => rw [hb] at h2; simp at h2
  | some b =>
    rw [hb] at h2
    have h3 := h1.step hb (of_decide_eq_true h2)
    rw [Int.toNat_natCast] at h3
    exact hy h3
theorem ahd_in {bl : List Bk} {R : List Bool} (hR : ∀ x, bitAt R x = true ↔ Rc bl x) {k y n : Nat} {b : Bk} (hn : Rc bl n) (hb : bl[n]? = some b) (hy : (y : Int) ∈ nextF b) (hk : n < k) : n ∈ ahdR bl R k y := by
  unfold ahdR
  rw [List.mem_filter]
  refine ⟨List.mem_range.2 hk, ?_⟩
  simp only [Bool.and_eq_true]
  refine ⟨(hR n).2 hn, ?_⟩
  unfold goesB
  rw [hb]
  exact decide_eq_true hy
end Go.Proofs.Ytgkjhnghibpeoaa
