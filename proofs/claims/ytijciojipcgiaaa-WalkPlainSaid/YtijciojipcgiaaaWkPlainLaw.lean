/- The law of plain moves, called: it answers true. -/
import Derived.Test.YtijciojipcgiaaaRows
import Derived.Test.YtijciojipcgiaaaWkRun
import Derived.Test.YtijciojipcgiaaaCdSame
import Derived.Test.YtijciojipcgiaaaCdEnd
import Derived.Test.YtijciojipcgiaaaWkArgs
import Derived.Test.YtijciojipcgiaaaWkPicks
import Derived.Test.YtijciojipcgiaaaIrSizes
import Derived.Test.YtijciojipcgiaaaIrBoth
import Derived.Test.YtijciojipcgiaaaWkBack
import Derived.LoopTactic
import Derived.LoopN
import Derived.WalkKit
import Derived.WalkSpells
import Derived.WalkLawsBesides
import Derived.Lib.Hide
import Derived.OrdersHeld
import Derived.Deep.RegionHeld
import Derived.Deep.DrawnRows
import Derived.RegionTactic
import Derived.Deep.RegionHeld3
import Derived.IntWalk
namespace Go.Proofs.Ytijciojipcgiaaa
open Go.RowKit
set_option maxRecDepth 100000
attribute [local go_sem ↓] bld_eq bls_eq

theorem refC_plain {l l' : List Gr} (h : L2 GR l l') (W : Int) (np : Nat) (fuel : Int) : refC W l' np fuel = refC W l np fuel := by
  unfold refC
  rw [checkC_plain h]
/-- What Run answers, with what was told either way. -/
def RunV (c : Cd) (picks : List Int) (fuel : Int) (w : World) (e : Ending) (w' : World) : Prop := ∃ q n cap sh st Ts, e = .returned (.tuple #[.agg #[.slice q n cap, .bool sh, .bool st], .int .i64 (refC c.words c.threads picks.length fuel)]) ∧ Below w.heap.size w w' ∧ SeenAt w' (.slice q n cap) Ts ∧
  ((refC c.words c.threads picks.length fuel ≠ 0 ∧ sh = false ∧ st = false ∧ Ts = []) ∨ (refC c.words c.threads picks.length fuel = 0 ∧ sh = (runP c.threads picks (RS0 c.words c.threads fuel.toNat)).2 ∧ st = (runP c.threads picks (RS0 c.words c.threads fuel.toNat)).1.W.strange ∧ Ts = (runP c.threads picks (RS0 c.words c.threads fuel.toNat)).1.T))
theorem run_v (B : Nat) (c : Cd) (w : World) (pv : Value) (picks : List Int) (fuel : Int) (hI : CIn w B c) (hBw : B ≤ w.heap.size) (hP : LiesG Icells 1 w B pv picks) (hf : -9223372036854775808 ≤ fuel ∧ fuel ≤ 9223372036854775807) (hxb : ∀ x ∈ picks, -9223372036854775808 ≤ x ∧ x ≤ 9223372036854775807) :
    Calls Try.prog 7 #[.agg #[.int .i64 c.words, c.tv], pv, .int .i64 fuel] w (RunV c picks fuel w) := by
  refine (run_any B c w pv picks fuel hI hBw hP hf hxb).mono ?_
  rintro e w' ⟨hb, ⟨h1, h2⟩ | ⟨h1, q, cap, h2, h3⟩⟩
  · exact ⟨none, 0, 0, false, false, [], h2, hb, ⟨0, [], World.ownsRow_nil w' 0 _ 2, fun i T hT => by simp at hT⟩, .inl ⟨h1, rfl, rfl, rfl⟩⟩
  · exact ⟨q, _, cap, _, _, _, by rw [h2, h1], hb, h3, .inr ⟨h1, rfl, rfl, rfl⟩⟩
/-- With plain moves the same was told. -/
theorem told_same {c d : Cd} (hw : d.words = c.words) (h : L2 GR c.threads d.threads) (picks : List Int) (n : Nat) : (runP d.threads picks (RS0 d.words d.threads n)).2 = (runP c.threads picks (RS0 c.words c.threads n)).2 ∧ (runP d.threads picks (RS0 d.words d.threads n)).1.T = (runP c.threads picks (RS0 c.words c.threads n)).1.T ∧ (runP d.threads picks (RS0 d.words d.threads n)).1.W.strange = false := by
  have h0 : RR (RS0 c.words c.threads n) (RS0 d.words d.threads n) := by
    refine ⟨rfl, ⟨by simp only [RS0]; rw [hw], rfl⟩, ?_⟩
    show d.threads.map TS0 = c.threads.map TS0
    apply List.ext_getElem?
    intro i
    rw [List.getElem?_map, List.getElem?_map]
    rcases h.get i with ⟨e1, e2⟩ | ⟨a, b, e1, e2, hab⟩
    · rw [e1, e2]
    · rw [e1, e2]
      show some (TS0 b) = some (TS0 a)
      unfold TS0
      rw [hab.refs]
  obtain ⟨h1, h2⟩ := runP_rel h picks _ _ h0
  exact ⟨h2, h1.T, h1.W.str⟩
theorem row_cell {α : Type} {cells : α → List Value} {kc : Nat} (hc : ∀ a, (cells a).length = kc) {w : World} {g : Nat} {E : TypeId} {R : Array Value} {l : List α} {t : List Value} (h : w.heap[g]? = some (.cells R E (0, 0))) (hR : R.toList = l.flatMap cells ++ t) (i : Nat) (x : α) (hx : l[i]? = some x) (j : Nat) (u : Value) (hu : (cells x)[j]? = some u) : w.cell? ⟨g, i * kc + j, none⟩ = some u := by
  rw [Lib.cell_of_heap h, ← Array.getElem?_toList, hR]
  exact flat_at hc l t i x hx j u hu
set_option maxHeartbeats 64000000 in
theorem plain_law (HA : ∀ w, Calls Try.prog 8 #[] w fun e w' => e = .returned (.bool true) ∧ Below w.heap.size w w') (c : Cd) (w : World) (pv : Value) (picks : List Int) (fuel : Int) (hI : CIn w w.heap.size c) (hP : PickIn w w.heap.size pv picks) (hf : -9223372036854775808 ≤ fuel ∧ fuel ≤ 9223372036854775807) :
    Calls Try.prog 4 #[.agg #[.int .i64 c.words, c.tv], pv, .int .i64 fuel] w fun e w' => e = .returned (.bool true) ∧ Below w.heap.size w w' := by
  have HA := Lib.hid HA
  have HI := Lib.hid hI
  have HP := Lib.hid hP
  have HF := Lib.hid hf
  obtain ⟨pq, pc, epv, hpl, -⟩ := hP.1.form
  obtain ⟨bo, bcp, eb, hbl, -⟩ := hI.tlies.form
  obtain ⟨np, hnp⟩ : ∃ n, n = picks.length := ⟨_, rfl⟩
  subst epv
  obtain ⟨W0, hW0⟩ : ∃ W0, W0 = w.alloc (.cells #[.int .i64 c.words, c.tv] 24) := ⟨_, rfl⟩
  have hB0 : Below w.heap.size w W0 := by rw [hW0]; exact below_box w _
  have hz0 : w.heap.size < W0.heap.size := by rw [hW0]; simp
  have hG0 : W0.heap[w.heap.size]? = some (.cells #[.int .i64 c.words, c.tv] 24 (0, 0)) := by rw [hW0]; exact (MapKept.heap_alloc _ _).1
  have HCS := Lib.hid (csize_q w.heap.size c W0 (hI.keeps hB0) hB0.size)
  obtain ⟨q0, q1⟩ := own2 hG0
  have e2 := made_int2
  have HB0 := Lib.hid hB0
  have HG0 := Lib.hid hG0
  have HW0 := Lib.hid hW0
  rw [hW0] at q0 q1
  rw [eb] at HCS q0 q1 HW0 HG0 ⊢
  obtain ⟨WD, hWD⟩ : ∃ x, x = c.words := ⟨_, rfl⟩
  obtain ⟨N, hN⟩ : ∃ N, N = c.threads.length := ⟨_, rfl⟩
  rw [← hWD, ← hN] at HCS q0 q1 HW0 HG0 ⊢
  rw [← hN] at hbl
  rw [← hnp] at hpl ⊢
  have HTW := Lib.hid (fun (u : World) (hu : Below w.heap.size w u) (hs : c.threads.length ≤ 262144 ∧ ∀ a ∈ c.threads, GSm a) => twinCode_any c w.heap.size u (hI.keeps hu) hu.size hs)
  have HRU := Lib.hid (fun (u : World) (hu : Below w.heap.size w u) => run_v w.heap.size c u _ picks fuel (hI.keeps hu) hu.size (hP.below hu).1 hf hP.2.1)
  have HR2 := Lib.hid (fun (u : World) (hu : Below w.heap.size w u) (d : Cd) (hd : CIn u u.heap.size d) => run_v u.heap.size d u _ picks fuel hd (Nat.le_refl _) ((hP.below hu).1.up hu.size) hf hP.2.1)
  rw [eb, ← hWD, ← hN] at HTW
  rw [eb, ← hWD, ← hN, ← hnp] at HRU
  rw [← hnp] at HR2
  have HNL := Lib.hid (And.intro hN hWD)
  have HNP := Lib.hid hnp
  have HWB := Lib.hid hI.words
  clear hI hP hf hB0 hG0 hW0 hnp hN hWD eb
  go_enter Try.func4, Try.ntmps4
  go_wp2_with fail
  rw [← HW0.out]
  clear q0 q1
  refine HCS.out.mono ?_; rintro e V1 ⟨⟨n1, rfl, hn0, hn1, hsm⟩, hb1⟩
  have HSM := Lib.hid hsm
  have HV1 := Lib.hid (HB0.out.trans (hb1.mono (Nat.le_of_lt hz0)))
  have HG1 := Lib.hid ((hb1.block w.heap.size hz0).trans HG0.out)
  have hz1 : w.heap.size < V1.heap.size := by have := hb1.size; omega
  clear hb1 hsm
  go_wp2_with fail
  obtain ⟨V2, hV2⟩ : ∃ V2, V2 = V1.alloc (.cells #[.int .i64 n1, .int .i64 (np : Int)] 3) := ⟨_, rfl⟩
  have hU2 : Below w.heap.size w V2 := by rw [hV2]; exact HV1.out.alloc (Nat.le_of_lt hz1) _
  have hg2 : V2.heap[w.heap.size]? = some (.cells #[.int .i64 WD, .slice bo N bcp] 24 (0, 0)) := by rw [hV2]; exact (Below.heap_alloc _ _ _ hz1).trans HG1.out
  have HBY := Lib.hid (beyond2_any V1.heap.size n1 (np : Int) _ _ V2 (by rw [hV2]; exact (MapKept.heap_alloc _ _).1))
  rw [← hV2]
  have HV2 := Lib.hid hU2
  have HG2 := Lib.hid hg2
  have hz2 : w.heap.size < V2.heap.size := heap_lt hg2
  clear hV2 hU2
  obtain ⟨q0, q1⟩ := own2 hg2
  clear hg2
  refine HBY.out.mono ?_
  rintro e V2' ⟨rfl | ⟨rfl, hy1, hy2⟩, rfl⟩
  · clear q0 q1
    go_wp2_with fail
    go_ret
    exact ⟨rfl, HV2.out⟩
  have hsmall := HSM.out hy1.2
  have HSML := Lib.hid (show c.threads.length ≤ 262144 ∧ ∀ a ∈ c.threads, GSm a by rw [← HNL.out.1]; exact hsmall)
  go_wp2_with fail
  clear q0 q1
  refine (HTW.out _ HV2.out hsmall).mono ?_; rintro e V3 ⟨tb, l, rfl, hbar, hb3, htb, hnw⟩
  have hlN : l.length = N := by rw [bares_len hbar, HNL.out.1]
  rw [hlN, ← HNL.out.2]
  obtain ⟨V4, hV4⟩ : ∃ V4, V4 = V3.alloc (.cells #[.int .i64 WD, .slice (some ⟨tb, 0, none⟩) N (N + 2)] 24) := ⟨_, rfl⟩
  have hb4 : Below V3.heap.size V3 V4 := by rw [hV4]; exact below_box V3 _
  have hz4 : V4.heap.size = V3.heap.size + 1 := by rw [hV4]; simp
  have hD4 : V4.heap[V3.heap.size]? = some (.cells #[.int .i64 WD, .slice (some ⟨tb, 0, none⟩) N (N + 2)] 24 (0, 0)) := by rw [hV4]; exact (MapKept.heap_alloc _ _).1
  have hKC : KC V4 V3.heap.size tb l := hnw V4 fun g _ hg => hb4.block g hg
  have hg4 : V4.heap[w.heap.size]? = some (.cells #[.int .i64 WD, .slice bo N bcp] 24 (0, 0)) := (hb4.block _ (by have := hb3.size; omega)).trans ((hb3.block _ hz2).trans HG2.out)
  have HV4 := Lib.hid ((HV2.out.trans (hb3.mono (Nat.le_of_lt hz2))).trans (hb4.mono (by have := hb3.size; omega)))
  have HKC := Lib.hid hKC
  have HD4 := Lib.hid hD4
  have HG4 := Lib.hid hg4
  have HW4 := Lib.hid hV4
  have HBAR := Lib.hid hbar
  have HLN := Lib.hid hlN
  have hz24 : w.heap.size < tb := by omega
  have htl : tb < V3.heap.size := hKC.lt
  have HZ4 := Lib.hid hz4
  clear hb3 hnw hb4 hz4 hD4 hKC hg4 hV4 hbar hlN hsmall htb
  go_wp2_with fail
  rw [← HW4.out]
  go_loopw [8] (fun q wr => ∃ i : Nat, i ≤ N ∧ q = .int .i64 (i : Int) ∧ Hid (PM V4 wr l (i, 0, 0))) (fun q _ => N - (intOf q).toNat)
  case atStart => exact ⟨0, by omega, rfl, Lib.hid (PM.start HKC.out)⟩
  case round =>
    obtain ⟨i, hiN, rfl, HPM⟩ := hrel
    have hdx : V3.heap.size ∉ insIds l := fun hm => by have := (HKC.out.bounds hm).2; omega
    have htx : tb ∉ insIds l := fun hm => by have := (HKC.out.bounds hm).1; omega
    have t1 := (own2 ((HPM.out.rest _ hdx).trans HD4.out)).2
    have hzr : wr.heap.size = V3.heap.size + 1 := by rw [HPM.out.size, HZ4.out]
    have hdl : V3.heap.size < wr.heap.size := by omega
    have htl2 : tb < wr.heap.size := by omega
    by_cases hlt : i < N
    · have hil : i < l.length := by rw [HLN.out]; exact hlt
      obtain ⟨a, hai⟩ : ∃ a, l[i]? = some a := ⟨_, List.getElem?_eq_getElem hil⟩
      have ham := List.mem_of_getElem? hai
      obtain ⟨RT, r1, r2⟩ := HKC.out.row
      have hbv := row_cell gcells_len ((HPM.out.rest _ htx).trans r1) r2 i a hai 2 _ (show (Gr.cells a)[2]? = some a.bv from rfl)
      obtain ⟨bb, RB, f1, f2, f3, f4⟩ := (HKC.out.each a ham).blocks
      have hbx : bb ∉ insIds l := by have h := (HKC.out.head ham).2; rw [f1] at h; exact h
      rw [f1] at hbv
      obtain ⟨nb, hnb⟩ : ∃ n, n = a.blocks.length := ⟨_, rfl⟩
      rw [← hnb] at hbv
      have hnb2 : nb ≤ 262144 := by rw [hnb]; exact ((small_all HBAR.out HSML.out).2 a ham).2.1
      have HAI := Lib.hid hai
      have HNB := Lib.hid hnb
      have HF3 := Lib.hid f3
      have HF4 := Lib.hid f4
      have HBX := Lib.hid hbx
      have hbbl : bb < V3.heap.size := f2
      have HBV := Lib.hid (fun (u : World) (hu : ∀ x, x ∉ insIds l → u.heap[x]? = V4.heap[x]?) => row_cell gcells_len ((hu _ htx).trans r1) r2 i a hai 2 _ (show (Gr.cells a)[2]? = some a.bv from rfl))
      rw [f1, ← hnb] at HBV
      have HDX := Lib.hid hdx
      have HI2 := Lib.hid hlt
      have HRT := Lib.hid (And.intro r1 r2)
      have HTX := Lib.hid htx
      clear hil hai ham r1 r2 f1 f2 f3 f4 hbx hnb hdx htx
      go_wp2_with fail
      clear hbv hlt t1 hdl htl2 hzr
      go_loopw [9] (fun q wr => ∃ k : Nat, k ≤ nb ∧ q = .int .i64 (k : Int) ∧ Hid (PM V4 wr l (i, k, 0))) (fun q _ => nb - (intOf q).toNat)
      case atStart => exact ⟨0, by omega, rfl, HPM⟩
      case round =>
        obtain ⟨k, hkN, rfl, HPK⟩ := hrel
        have t1 := (own2 ((HPK.out.rest _ HDX.out).trans HD4.out)).2
        have hzr : wr.heap.size = V3.heap.size + 1 := by rw [HPK.out.size, HZ4.out]
        have hdl : V3.heap.size < wr.heap.size := by omega
        have htl2 : tb < wr.heap.size := by omega
        have hbv := HBV.out wr HPK.out.rest
        have hbbl2 : bb < wr.heap.size := by omega
        have hiN2 := HI2.out
        by_cases hlt : k < nb
        · obtain ⟨b, hbk⟩ : ∃ b, a.blocks[k]? = some b := ⟨_, List.getElem?_eq_getElem (by rw [← HNB.out]; exact hlt)⟩
          have hiv := row_cell bkcells_len ((HPK.out.rest _ HBX.out).trans HF3.out) HF4.out k b hbk 0 _ (show (Bk.cells b)[0]? = some b.iv from rfl)
          obtain ⟨ib, RI, g1, g2, -, -, -, -⟩ := (HKC.out.each a (List.mem_of_getElem? HAI.out)).each b (List.mem_of_getElem? hbk)
          obtain ⟨ni, hni⟩ : ∃ n, n = b.ins.length := ⟨_, rfl⟩
          have hni2 : ni ≤ 262144 := by rw [hni]; exact ((small_all HBAR.out HSML.out).2 a (List.mem_of_getElem? HAI.out)).2.2 b (List.mem_of_getElem? hbk)
          have hibe : ibOf b.iv = ib := by rw [g1]; rfl
          rw [Nat.add_zero, g1, ← hni] at hiv
          have HBK := Lib.hid hbk
          have HNI := Lib.hid hni
          have HIB := Lib.hid hibe
          have hibl : ib < V3.heap.size := g2
          have HK2 := Lib.hid hlt
          clear hbk g1 g2 hni hibe
          go_wp2_with fail
          clear hbv hlt t1 hdl htl2 hzr hiv hiN2 hbbl2
          go_loopw [11] (fun q wr => ∃ n : Nat, n ≤ ni ∧ q = .int .i64 (n : Int) ∧ Hid (PM V4 wr l (i, k, n))) (fun q _ => ni - (intOf q).toNat)
          case atStart => exact ⟨0, by omega, rfl, HPK⟩
          case round =>
            obtain ⟨n, hnN, rfl, HPN⟩ := hrel
            have hzr : wr.heap.size = V3.heap.size + 1 := by rw [HPN.out.size, HZ4.out]
            have hibl2 : ib < wr.heap.size := by omega
            by_cases hlt : n < ni
            · obtain ⟨x, hx⟩ : ∃ x, b.ins[n]? = some x := ⟨_, List.getElem?_eq_getElem (by rw [← HNI.out]; exact hlt)⟩
              have hpa := HPN.out.at HKC.out HAI.out HBK.out hx
              rw [HIB.out] at hpa
              have c0 := hpa.cell
              have f0 := hpa.frozen
              obtain ⟨kx, hkx⟩ : ∃ u, u = x.k := ⟨_, rfl⟩
              rw [← hkx] at c0
              rcases plain_cases x with ⟨h10, hpl⟩ | ⟨h11, hpl⟩ | ⟨h10, h11, hpl⟩
              · have HPZ := Lib.hid (hpa.other 8 hpl)
                rw [h10] at hkx
                subst hkx
                clear hx hpa hpl h10
                go_wp2_with fail
                go_roundw
                case rel => exact ⟨n + 1, hlt, by go_num, HPZ⟩
                case measure => simp [intOf]; omega
              · have HPZ := Lib.hid (hpa.other 9 hpl)
                rw [h11] at hkx
                subst hkx
                clear hx hpa hpl h11
                go_wp2_with fail
                go_roundw
                case rel => exact ⟨n + 1, hlt, by go_num, HPZ⟩
                case measure => simp [intOf]; omega
              · have HPZ := Lib.hid (hpa.same hpl)
                have hk1 : (kx == 10) = false := by simp only [beq_eq_false_iff_ne, ne_eq]; rw [hkx]; exact h10
                have hk2 : (kx == 11) = false := by simp only [beq_eq_false_iff_ne, ne_eq]; rw [hkx]; exact h11
                clear hx hpa hpl h10 h11 hkx
                go_wp2_with fail
                go_roundw
                case rel => exact ⟨n + 1, hlt, by go_num, HPZ⟩
                case measure => simp [intOf]; omega
            · have HPZ := Lib.hid (show PM V4 wr l (i, k + 1, 0) from HPN.out.move fun i' a' k' b' ha' hb' => insAt_block fun e1 e2 => by
                subst e1 e2
                rw [HAI.out] at ha'
                cases ha'
                rw [HBK.out] at hb'
                cases hb'
                rw [← HNI.out]
                omega)
              have hkl := HK2.out
              go_wp2_with fail
              go_roundw
              case rel => exact ⟨k + 1, hkl, by go_num, HPZ⟩
              case measure => simp [intOf]; omega
        · have HPZ := Lib.hid (show PM V4 wr l (i + 1, 0, 0) from HPK.out.move fun i' a' k' b' ha' hb' => by
            have hkn : k = nb := by omega
            rw [hkn]
            refine insAt_thread fun e1 => ?_
            subst e1
            rw [HAI.out] at ha'
            cases ha'
            rw [HNB.out]
            exact (List.getElem?_eq_some_iff.1 hb').1)
          go_wp2_with fail
          go_roundw
          case rel => exact ⟨i + 1, hiN2, by go_num, HPZ⟩
          case measure => simp [intOf]; omega
    · have hin : i = N := by omega
      subst hin
      have hwx : w.heap.size ∉ insIds l := fun hm => by have := (HKC.out.bounds hm).1; omega
      obtain ⟨q0, q1⟩ := own2 ((HPM.out.rest _ hwx).trans HG4.out)
      have hbw : Below w.heap.size w wr := HV4.out.trans ((HPM.out.below HKC.out).mono (by omega))
      have hcin : CIn wr V3.heap.size ⟨WD, .slice (some ⟨tb, 0, none⟩) l.length (l.length + 2), l.map plGr⟩ := pm_end HKC.out (by rw [HLN.out]; exact HPM.out) (by have := HWB.out; rw [HNL.out.2]; exact this) (small_all HBAR.out HSML.out)
      have hrel : L2 GR c.threads (l.map plGr) := plain_rel HBAR.out
      have HCIN := Lib.hid hcin
      have HREL := Lib.hid hrel
      have HBW := Lib.hid hbw
      have HD9 := Lib.hid ((HPM.out.rest _ hdx).trans HD4.out)
      have hlw : w.heap.size < wr.heap.size := by omega
      clear hcin hrel hbw hdx htx hwx
      go_wp2_with fail
      refine (HRU.out _ HBW.out).mono ?_; rintro e V6 ⟨qa, na, ca, sha, sta, Ta, rfl, hb6, hsa, hra⟩
      rw [← HNL.out.2, ← HNP.out] at hra ⊢
      obtain ⟨er, her⟩ : ∃ x, x = refC WD c.threads np fuel := ⟨_, rfl⟩
      rw [← her] at hra ⊢
      obtain ⟨V7, hV7⟩ : ∃ V7, V7 = V6.alloc (.cells #[.slice qa na ca, .bool sha, .bool sta] 30) := ⟨_, rfl⟩
      have hb7 : Below V6.heap.size V6 V7 := by rw [hV7]; exact below_box V6 _
      have hz7 : V7.heap.size = V6.heap.size + 1 := by rw [hV7]; simp
      have hzw6 : wr.heap.size ≤ V6.heap.size := hb6.size
      have hb67 : Below wr.heap.size wr V7 := hb6.trans (hb7.mono hzw6)
      have hX7 : V7.heap[V6.heap.size]? = some (.cells #[.slice qa na ca, .bool sha, .bool sta] 30 (0, 0)) := by rw [hV7]; exact (MapKept.heap_alloc _ _).1
      have hd7 := (hb67.block _ (by omega)).trans HD9.out
      have hcin7 : CIn V7 V7.heap.size ⟨WD, .slice (some ⟨tb, 0, none⟩) l.length (l.length + 2), l.map plGr⟩ := (HCIN.out.keeps (hb67.mono (by omega))).up (by omega)
      have HRD := Lib.hid (HR2.out V7 (HBW.out.trans (hb67.mono (by omega))) _ hcin7)
      rw [HLN.out] at HRD
      have HS7 := Lib.hid (hsa.below hb7)
      have HX7 := Lib.hid hX7
      have HRA := Lib.hid hra
      have HER := Lib.hid her
      have HW7 := Lib.hid hV7
      have HV7 := Lib.hid (HBW.out.trans (hb67.mono (by omega)))
      obtain ⟨d0, d1⟩ := own2 hd7
      have hl7 : V3.heap.size < V7.heap.size := by omega
      have hl6 : V6.heap.size < V7.heap.size := by omega
      rw [hV7] at d0 d1
      clear q0 q1 hb6 hsa hra her hV7 hb7 hz7 hb67 hX7 hd7 hcin7
      go_wp2_with fail
      rw [← HW7.out]
      clear d0 d1
      refine HRD.out.mono ?_; rintro e V8 ⟨qb, nb, cb, shb, stb, Tb, rfl, hb8, hsb, hrb⟩
      simp only at hrb ⊢
      rw [← HNP.out, refC_plain HREL.out, ← HER.out] at hrb ⊢
      obtain ⟨V9, hV9⟩ : ∃ V9, V9 = V8.alloc (.cells #[.slice qb nb cb, .bool shb, .bool stb] 30) := ⟨_, rfl⟩
      have hb9 : Below V8.heap.size V8 V9 := by rw [hV9]; exact below_box V8 _
      have hz9 : V9.heap.size = V8.heap.size + 1 := by rw [hV9]; simp
      have hz78 : V7.heap.size ≤ V8.heap.size := hb8.size
      have hb79 : Below V7.heap.size V7 V9 := hb8.trans (hb9.mono hz78)
      have hXA := (hb79.block _ hl6).trans HX7.out
      have hXB : V9.heap[V8.heap.size]? = some (.cells #[.slice qb nb cb, .bool shb, .bool stb] 30 (0, 0)) := by rw [hV9]; exact (MapKept.heap_alloc _ _).1
      have hall : shb = sha ∧ stb = false ∧ Tb = Ta ∧ Ta.length ≤ 262144 := by
        have hts := told_same (c := c) (d := ⟨WD, .slice (some ⟨tb, 0, none⟩) i (i + 2), l.map plGr⟩) HNL.out.2 HREL.out picks fuel.toNat
        simp only at hts
        rcases HRA.out with ⟨h1, h2, h3, h4⟩ | ⟨h1, h2, h3, h4⟩
        · rcases hrb with ⟨k1, k2, k3, k4⟩ | ⟨k1, -⟩
          · exact ⟨by rw [k2, h2], k3, by rw [k4, h4], by rw [h4]; simp⟩
          · exact absurd k1 h1
        · rcases hrb with ⟨k1, -⟩ | ⟨k1, k2, k3, k4⟩
          · exact absurd h1 k1
          · rw [HNL.out.2] at k2 k3 k4
            rw [HNL.out.2] at h2 h3 h4 hts
            refine ⟨by rw [k2, h2]; exact hts.1, by rw [k3]; exact hts.2.2, by rw [k4, h4]; exact hts.2.1, ?_⟩
            rw [h4, runP_tlen]
            simp only [RS0, List.length_map]
            exact HSML.out.1
      obtain ⟨rfl, rfl, rfl, hTl⟩ := hall
      have HSS := Lib.hid (sameSeens_any Tb _ _ V9 (HS7.out.below hb79) (hsb.below hb9) (by omega))
      obtain ⟨a0, a1, a2⟩ := own3' hXA
      obtain ⟨b0, b1, b2⟩ := own3' hXB
      have hA9 : V6.heap.size < V9.heap.size := by omega
      have hB9 : V8.heap.size < V9.heap.size := by omega
      have HV9 := Lib.hid (HV7.out.trans (hb79.mono (by have := HV7.out.size; omega)))
      have HW9 := Lib.hid hV9
      rw [hV9] at a0 a1 a2 b0 b1 b2
      have hAB : V6.heap.size < V8.heap.size := by omega
      have her : (er == er) = true := by simp
      clear hb8 hsb hrb hV9 hb9 hz9 hb79 hXA hXB hTl hz78
      cases shb
      all_goals
        go_wp2_with fail
        rw [← HW9.out]
        refine HSS.out.mono ?_; rintro e Y1 ⟨rfl, hy1⟩
        have HY1 := Lib.hid hy1
        clear hy1
        go_wp2_with fail
        refine (HA.out _).mono ?_; rintro e Y2 ⟨rfl, hy2⟩
        have HY2 := Lib.hid hy2
        clear hy2
        go_wp2_with fail
        go_ret
        exact ⟨rfl, (HV9.out.trans (HY1.out.mono HV9.out.size)).trans (HY2.out.mono (by have := HV9.out.size; have := HY1.out.size; omega))⟩
end Go.Proofs.Ytijciojipcgiaaa
