/- The law of what is live spot by spot, called: it answers true. -/
import Derived.Test.YtgkjhnghibpeoaaDoorRows
import Derived.Test.YtgkjhnghibpeoaaDoorLvSame
import Derived.Test.YtgkjhnghibpeoaaDoorFlSize
import Derived.Test.YtgkjhnghibpeoaaDoorLvInn
import Derived.Test.YtgkjhnghibpeoaaDoorIrLeaf
import Derived.Test.YtgkjhnghibpeoaaDoorIrNew
import Derived.Test.YtgkjhnghibpeoaaDoorParseOrder
import Derived.LoopTactic
import Derived.LoopN
import Derived.Deep.LoopGhost
import Derived.WalkKit
import Derived.WalkSpells
import Derived.WalkLawsBesides
import Derived.Lib.Hide
import Derived.OrdersHeld
import Derived.Deep.RegionHeld
import Derived.Deep.DrawnRows
import Derived.RegionTactic
import Derived.Deep.RegionHeld3
import Derived.IntWalk
import Derived.Deep.QuietTactic
import Derived.BigQuiet
namespace Go.Proofs.YtgkjhnghibpeoaaDoor
open Go.RowKit
set_option maxRecDepth 1000000
attribute [local go_sem ↓] bld_eq bls_eq


theorem Good.below {W W' : World} (h : Good W) (hb : Below W.heap.size W W') : Good W' := h.of (hb.block _ h.lt)
theorem isSpot_of {g : Gr} {n k : Nat} {bk : Bk} (hbk : g.blocks[n]? = some bk) (hk : k ≤ bk.ins.length) : isSpotB g (n : Int) (k : Int) = true := by
  have hn := (List.getElem?_eq_some_iff.1 hbk).1
  unfold isSpotB insAt
  rw [Int.toNat_natCast, hbk]
  simp
  omega
theorem at_ok (B : Nat) (g : Gr) (n k : Nat) (bk : Bk) (S : List (List Nat)) (w : World) (hc : ∀ bk ∈ g.blocks, CapB bk) (hG : Good w) (hI : GIn w B g) (hBw : B ≤ w.heap.size) (hm : mayB g = true) (hbk : g.blocks[n]? = some bk) (hk : k ≤ bk.ins.length) (hS : LivP g.blocks S) :
    Calls Tryd.prog 9 #[.agg #[g.rv, .int .i64 g.sites, g.bv], .agg #[.int .i64 (n : Int), .int .i64 (k : Int)]] w fun e w' => ∃ v, e = .returned (.tuple #[v, .int .i64 0]) ∧ RowAt w' w.heap.size v (natsI (listS (atSet bk k S))) ∧ Below w.heap.size w w' := by
  refine (at_any B g n k w hc hG hI hBw).mono ?_
  rintro e w' ⟨hb, h⟩
  rcases h with ⟨h1, _⟩ | ⟨_, h2, _⟩ | ⟨_, _, n', k', bk', S', v, e1, e2, hbk', _, hS', _, he, hr⟩
  · rw [hm] at h1; cases h1
  · rw [isSpot_of hbk hk] at h2; cases h2
  · have hn : n' = n := by omega
    have hk2 : k' = k := by omega
    subst hn hk2
    rw [hbk] at hbk'
    cases hbk'
    rw [hS'.uniq hS] at hr
    exact ⟨v, he, hr, hb⟩
theorem halt_none {bk : Bk} (h : bk.last = 3) (S : List (List Nat)) : listS (atSet bk bk.ins.length S) = [] := by
  have e1 : nextF bk = [] := by unfold nextF; rw [if_pos h]
  have e2 : deedF bk bk.ins.length = (emptyS, emptyS) := by unfold deedF; rw [List.drop_length]; unfold deedL endD; rw [if_neg (by omega)]
  unfold listS
  rw [List.filter_eq_nil_iff]
  intro r _ hh
  unfold atSet at hh
  have e3 : behS S [] = emptyS := rfl
  rw [e1, e2, e3, has_ahead ⟨SOk.empty, SOk.empty⟩ SOk.empty, has_empty] at hh
  simp [has_empty] at hh
theorem natsI_mem {l : List Nat} {r : Nat} : (r : Int) ∈ natsI l ↔ r ∈ l := by
  unfold natsI
  rw [List.mem_map]
  constructor
  · rintro ⟨a, ha, e⟩
    have : a = r := by omega
    subst this; exact ha
  · intro h; exact ⟨r, h, rfl⟩
theorem natsI_len (l : List Nat) : (natsI l).length = l.length := by unfold natsI; rw [List.length_map]
theorem natsI_le (s : List Nat) : (natsI (listS s)).length ≤ 4096 := by have := list_le s; rw [natsI_len]; omega
/-- One round of the law, without memory. -/
theorem step_has {R : Nat} (hR : R ≤ 1024) {bl : List Bk} {S : List (List Nat)} (hS : LivP bl S) {bk : Bk} {j : Nat} {i : In} (hi : bk.ins[j]? = some i) (hf : IFit R i) (r : Nat) :
    decide ((r : Int) ∈ natsI (listS (atSet bk j S))) = (decide ((r : Int) ∈ readsL i) || (decide ((r : Int) ∈ natsI (listS (atSet bk (j + 1) S))) && ((r : Int) != wrI i))) := by
  have hd := deedF_ok bk (j + 1)
  have hb := beh_ok hS.ok (nextF bk)
  have h1 : ∀ k, decide ((r : Int) ∈ natsI (listS (atSet bk k S))) = hasS (atSet bk k S) r := fun k => by
    rw [Bool.eq_iff_iff, decide_eq_true_eq, natsI_mem, listS_mem (atSet_ok hS bk k)]
  rw [h1, h1, reads_asks hf]
  unfold atSet
  rw [deedF_step hi, has_step hR hf hd hb]
  have : ((r : Int) != wrI i) = !decide ((r : Int) = wrI i) := by
    rw [Bool.eq_iff_iff]; simp
  rw [this]

theorem reads_len (i : In) : (readsL i).length ≤ 4 := by
  unfold readsL
  split
  · simp
  · split
    · simp
    · split
      · split <;> simp
      · split
        · split <;> simp
        · simp
set_option maxHeartbeats 64000000 in
theorem steps_law (HA : ∀ w, Good w → Calls Tryd.prog 8 #[] w fun e w' => e = .returned (.bool true) ∧ Below w.heap.size w w') (g : Gr) (b : Int) (w : World) (hc : ∀ bk ∈ g.blocks, CapB bk) (hG : Good w) (hI : GIn w w.heap.size g) :
    Calls Tryd.prog 3 #[.agg #[g.rv, .int .i64 g.sites, g.bv], .int .i64 b] w fun e w' => e = .returned (.bool true) ∧ Below w.heap.size w w' := by
  obtain ⟨bo, bcp, eb, hbl, hbg⟩ := hI.blies.form
  obtain ⟨ro, rcp, er, -, -⟩ := hI.rlies.form
  obtain ⟨N, hN⟩ : ∃ N, N = g.blocks.length := ⟨_, rfl⟩
  rw [← hN] at eb hbg hbl
  obtain ⟨W0, hW0⟩ : ∃ W0, W0 = w.alloc (.cells #[g.rv, .int .i64 g.sites, g.bv] 25) := ⟨_, rfl⟩
  have hB0 : Below w.heap.size w W0 := by rw [hW0]; exact below_box w _
  have hz0 : w.heap.size < W0.heap.size := by rw [hW0]; simp
  have hG0 : W0.heap[w.heap.size]? = some (.cells #[g.rv, .int .i64 g.sites, g.bv] 25 (0, 0)) := by rw [hW0]; exact (MapKept.heap_alloc _ _).1
  have hcs := gsize_any w.heap.size g W0 (hI.keeps hB0) hB0.size
  have hin := fun (u : World) (hu : Below w.heap.size w u) => inn_any w.heap.size g u hc (hG.below hu) (hI.keeps hu) hu.size
  have hat := fun (n k : Nat) (bk : Bk) (S : List (List Nat)) (u : World) (hu : Below w.heap.size w u) => at_ok w.heap.size g n k bk S u hc (hG.below hu) (hI.keeps hu) hu.size
  obtain ⟨rv, hrv⟩ : ∃ x, x = g.rv := ⟨_, rfl⟩
  obtain ⟨st, hst⟩ : ∃ x, x = g.sites := ⟨_, rfl⟩
  rw [er] at hrv
  obtain ⟨NR, hNR⟩ : ∃ x, x = g.refs.length := ⟨_, rfl⟩
  rw [er, eb, ← hst, ← hNR] at hW0 hG0 hcs hin hat ⊢
  clear hrv
  obtain ⟨q0, q1, q2⟩ := own3 hG0
  have HA := Lib.hid HA
  have HI := Lib.hid hI
  have HGD := Lib.hid hG
  have HC := Lib.hid hc
  have HCS := Lib.hid hcs
  have HIN := Lib.hid hin
  have HAT0 := Lib.hid hat
  have HB0 := Lib.hid hB0
  have HG0 := Lib.hid hG0
  have HW0 := Lib.hid hW0
  have HN := Lib.hid hN
  have HNR := Lib.hid hNR
  have HEB := Lib.hid eb
  have e1 := fun (n : Int) (u : World) => bls_of 37 3 1 1 #[(0, .int .i64 n)] #[.int .i64 n] (by kernel_rfl) (by kernel_rfl) (by kernel_rfl) (by decide) (by decide) (by kernel_rfl) (by kernel_rfl) u
  have e2 := fun (x y : Int) (u : World) => bld_of 41 #[(0, .int .i64 x), (1, .int .i64 y)] #[.int .i64 x, .int .i64 y] (by kernel_rfl) u
  rw [hW0] at q0 q1 q2
  clear hI hB0 hG0 hW0 hcs hin hat eb er hst hNR hN hbg hG hc
  go_enter Tryd.func3, Tryd.ntmps3
  go_wp2_with fail
  rw [← HW0.out]
  clear q0 q1 q2
  refine HCS.out.mono ?_; rintro e V1 ⟨⟨n1, rfl, hn0, hn1⟩, hb1⟩
  have HU1 := Lib.hid (HB0.out.trans (hb1.mono (Nat.le_of_lt hz0)))
  have HG1 := Lib.hid ((hb1.block w.heap.size hz0).trans HG0.out)
  have hz1 : w.heap.size < V1.heap.size := by have := hb1.size; omega
  clear hb1
  go_wp2_with fail
  obtain ⟨V2, hu2⟩ : ∃ V2, V2 = V1.alloc (.cells #[.int .i64 n1] 3) := ⟨_, rfl⟩
  have hU2 : Below w.heap.size w V2 := by rw [hu2]; exact HU1.out.alloc (Nat.le_of_lt hz1) _
  have hg2 : V2.heap[w.heap.size]? = some (.cells #[.slice ro NR rcp, .int .i64 st, .slice bo N bcp] 25 (0, 0)) := by rw [hu2]; exact (Below.heap_alloc _ _ _ hz1).trans HG1.out
  have HBY := Lib.hid (beyond_any V1.heap.size n1 3 (0, 0) V2 hn0 hn1 (by rw [hu2]; exact (MapKept.heap_alloc _ _).1))
  have hu2' : V2 = V1.alloc (.cells #[.int .i64 n1] 3) := hu2
  rw [← hu2']
  have HU2 := Lib.hid hU2
  have HG2 := Lib.hid hg2
  have hz2 : w.heap.size < V2.heap.size := (Array.getElem?_eq_some_iff.1 hg2).1
  clear hu2 hu2' hU2 hg2
  refine HBY.out.mono ?_; rintro e V2' ⟨rfl, rfl⟩
  cases hdec : decide (262144 < n1) with
  | true =>
    clear hdec
    go_wp2_with fail
    go_ret
    exact ⟨rfl, HU2.out⟩
  | false =>
  clear hdec hn0 hn1
  obtain ⟨q0, q1, q2⟩ := own3 HG2.out
  go_wp2_with fail
  clear q0 q1 q2
  refine (HIN.out V2 HU2.out).mono ?_; rintro e V3 ⟨hb3, hin⟩
  have hs3 := hb3.size
  have HU3 := Lib.hid (HU2.out.trans (hb3.mono (Nat.le_of_lt hz2)))
  have HG3 := Lib.hid ((hb3.block w.heap.size hz2).trans HG2.out)
  have hz3 : w.heap.size < V3.heap.size := by omega
  rcases hin with ⟨hm, rfl⟩ | ⟨hm, gR, vs, S, rfl, hgR, hgR2, hrow, hvl, hS, hvs⟩
  · clear hb3
    obtain ⟨q0, q1, q2⟩ := own3 HG3.out
    have HAA := HA
    go_wp2_with fail
    refine (HA.out _ (HGD.out.below HU3.out)).mono ?_; rintro e u9 ⟨rfl, hb9⟩
    have HB9 := Lib.hid ((HU3.out).trans (hb9.mono (HU3.out).size))
    clear hb9
    go_wp2_with fail
    go_ret
    exact ⟨rfl, HB9.out⟩
  · rw [← HN.out]
    have HROW3 := Lib.hid hrow
    have HVS := Lib.hid hvs
    have HS := Lib.hid hS
    have HM := Lib.hid hm
    have HGL := Lib.hid (glv_of HI.out hm HC.out)
    clear hb3 hrow hvs hS hm hvl
    obtain ⟨q0, q1, q2⟩ := own3 HG3.out
    cases hb0 : decide (b < 0) with
    | true =>
      have HAA := HA
      go_wp2_with fail
      refine (HA.out _ (HGD.out.below HU3.out)).mono ?_; rintro e u9 ⟨rfl, hb9⟩
      have HB9 := Lib.hid ((HU3.out).trans (hb9.mono (HU3.out).size))
      clear hb9
      go_wp2_with fail
      go_ret
      exact ⟨rfl, HB9.out⟩

    | false =>
    cases hbN : decide ((N : Int) ≤ b) with
    | true =>
      have HAA := HA
      go_wp2_with fail
      refine (HA.out _ (HGD.out.below HU3.out)).mono ?_; rintro e u9 ⟨rfl, hb9⟩
      have HB9 := Lib.hid ((HU3.out).trans (hb9.mono (HU3.out).size))
      clear hb9
      go_wp2_with fail
      go_ret
      exact ⟨rfl, HB9.out⟩

    | false =>
    obtain ⟨n, hn⟩ : ∃ n : Nat, b = (n : Int) := ⟨b.toNat, by have := of_decide_eq_false hb0; omega⟩
    subst hn
    have hnN : n < N := by have := of_decide_eq_false hbN; omega
    obtain ⟨bk, hbk⟩ : ∃ bk, g.blocks[n]? = some bk := ⟨_, List.getElem?_eq_getElem (by rw [← HN.out]; exact hnN)⟩
    obtain ⟨go, off, cap, egv, hgo, hp⟩ := blk_at HI.out hbk
    have hbo : bo = some ⟨go, off, none⟩ := by have h := HEB.out.symm.trans egv; injection h
    subst hbo
    obtain ⟨p0, p1, p2, p3, p4⟩ := hp V3 HU3.out
    have HP := Lib.hid hp
    obtain ⟨qi, ci, eiv, hil, hig⟩ := (HI.out.blocks bk (List.mem_of_getElem? hbk)).lies.form
    obtain ⟨K, hK⟩ : ∃ K, K = bk.ins.length := ⟨_, rfl⟩
    have HIL := Lib.hid (fun (u : World) (hu : Below w.heap.size w u) => by have h := ((HI.out.blocks bk (List.mem_of_getElem? hbk)).keeps hu).lies; rw [eiv] at h; exact h)
    have hKm : K ≤ 8192 := by rw [hK]; exact HGL.out.ins bk (List.mem_of_getElem? hbk)
    have HHALT := Lib.hid (fun (h : bk.last = 3) => halt_none h S)
    have hat := fun (k : Nat) (hk : k ≤ K) (u : World) (hu : Below w.heap.size w u) => HAT0.out n k bk S u hu HM.out hbk (by rw [← hK]; exact hk) HS.out
    rw [← hK] at eiv hil hig HIL HHALT
    rw [eiv] at p0
    have HAT := Lib.hid hat
    have HK := Lib.hid hK
    have hnN0 : (n : Int) < (N : Int) := by omega
    have hbN' := hbN
    clear hp egv eiv hat hK hil hig
    go_wp2_with fail
    refine (HAT.out K (Nat.le_refl _) V3 HU3.out).mono ?_; rintro e V4 ⟨v, rfl, hr4, hb4⟩
    have hs4 := hb4.size
    have hgR4 : gR < V4.heap.size := by omega
    have HB34 := Lib.hid hb4
    have HU4 := Lib.hid (HU3.out.trans (hb4.mono (Nat.le_of_lt hz3)))
    have HG4 := Lib.hid ((hb4.block w.heap.size hz3).trans HG3.out)
    have HROW := Lib.hid ((hb4.block gR hgR2).trans HROW3.out)
    have HR4 := Lib.hid (hr4.down (Nat.zero_le _))
    obtain ⟨ao4, cp4, ev4⟩ := hr4.form
    obtain ⟨L, hL⟩ : ∃ L, L = (natsI (listS (atSet bk K S))).length := ⟨_, rfl⟩
    rw [← hL] at ev4
    subst ev4
    clear p0 p1 p2 p3 p4 q0 q1 q2 hr4
    obtain ⟨p0, p1, p2, p3, p4⟩ := HP.out V4 HU4.out
    obtain ⟨q0, q1, q2⟩ := own3 HG4.out
    have hcase : (bk.last == 3) = false ∨ ((bk.last == 3) = true ∧ L = 0) := by
      cases h : (bk.last == 3) with
      | false => exact .inl rfl
      | true =>
        have h3 := HHALT.out (by simpa using h)
        refine .inr ⟨rfl, ?_⟩
        rw [hL, h3]
        rfl
    clear hL
    rcases hcase with hl3 | ⟨hl3, rfl⟩
    all_goals
      clear hb0 hbN' hb4
      obtain ⟨q0, q1, q2⟩ := own3 HG4.out
      go_wp2_with fail
      clear q0 q1 q2
      go_loopw [8, 9] (fun bh q wr => ∃ k : Nat, q = .int .i64 ((k : Int) - 1) ∧ k ≤ K ∧ Hid (RowAt wr 0 bh (natsI (listS (atSet bk k S)))) ∧ Hid (Below V4.heap.size V4 wr)) (fun _ q _ => (intOf q + 1).toNat)
      case atStart => exact ⟨K, by go_num, Nat.le_refl _, HR4, Lib.hid (Below.refl _ _)⟩
      case round =>
        obtain ⟨k, rfl, hkK, HRB, HW⟩ := hrel
        rename World => V
        obtain ⟨ao, cp, ebh⟩ := HRB.out.form
        obtain ⟨LB, hLB⟩ : ∃ x, x = (natsI (listS (atSet bk k S))).length := ⟨_, rfl⟩
        rw [← hLB] at ebh
        subst ebh
        clear hLB
        have hv4 := HW.out.size
        have HUV := Lib.hid (HU4.out.trans (HW.out.mono HU4.out.size))
        have HGV := Lib.hid ((HW.out.block w.heap.size (by omega)).trans HG4.out)
        by_cases hk0 : k = 0
        · subst hk0
          have hz : ((0 : Nat) : Int) - 1 = -1 := rfl
          rw [hz]
          clear hz
          obtain ⟨vn, hvn, hrn⟩ := HVS.out n (by rw [← HN.out]; exact hnN)
          have hrn2 := (hrn.belowK HB34.out).belowK HW.out
          have hfix : atSet bk 0 S = atS S n := HS.out.fix hbk
          rw [hfix] at HRB
          have HSN := Lib.hid (sameNumbers_any _ V.heap.size _ vn V (HRB.out.lies (natsI_le _)) (hrn2.lies (natsI_le _)) (Nat.le_refl _))
          have hrow := (HW.out.block gR hgR4).trans HROW.out
          have crow : V.cell? ⟨gR, n, none⟩ = some vn := by rw [Lib.cell_of_heap hrow]; simpa using hvn
          obtain ⟨ao2, cp2, evn⟩ := hrn2.form
          obtain ⟨LN, hLN⟩ : ∃ x, x = (natsI (listS (atS S n))).length := ⟨_, rfl⟩
          rw [← hLN] at evn
          subst evn
          clear hvn hrn hrn2 hfix hrow hbk hLN
          go_wp2_with fail
          refine HSN.out.mono ?_; rintro e V5 ⟨rfl, hb5⟩
          have HU5 := Lib.hid (HUV.out.trans (hb5.mono HUV.out.size))
          clear hb5
          have HAA := HA
          go_wp2_with fail
          refine (HA.out _ (HGD.out.below HU5.out)).mono ?_; rintro e u9 ⟨rfl, hb9⟩
          have HB9 := Lib.hid ((HU5.out).trans (hb9.mono (HU5.out).size))
          clear hb9
          go_wp2_with fail
          go_ret
          exact ⟨rfl, HB9.out⟩
        · obtain ⟨j, hj⟩ : ∃ j, k = j + 1 := ⟨k - 1, by omega⟩
          subst hj
          have hz : ((j + 1 : Nat) : Int) - 1 = (j : Int) := by omega
          rw [hz]
          have hz2 : decide ((0 : Int) ≤ (j : Int)) = true := by simp
          obtain ⟨q0, q1, q2⟩ := own3 HGV.out
          clear hz
          go_wp2_with fail
          refine (HAT.out j (by omega) V HUV.out).mono ?_; rintro e V5 ⟨v2, rfl, hr5, hb5⟩
          have hv5 := hb5.size
          have HW5 := Lib.hid (HW.out.trans (hb5.mono HW.out.size))
          have HRB5 := Lib.hid (HRB.out.belowK hb5)
          have HU5 := Lib.hid (HUV.out.trans (hb5.mono HUV.out.size))
          have HG5 := Lib.hid ((hb5.block w.heap.size (by omega)).trans HGV.out)
          have HR5 := Lib.hid (hr5.down (Nat.zero_le _))
          obtain ⟨i, hi⟩ : ∃ i, bk.ins[j]? = some i := ⟨_, List.getElem?_eq_getElem (by rw [← HK.out]; omega)⟩
          obtain ⟨go2, of2, eqi, hg2, hci⟩ := lies_at2 (HIL.out V5 HU5.out) j i hi
          subst eqi
          obtain ⟨i0, i1, i2, i3, i4, i5⟩ := ic hci
          have HII := Lib.hid hi
          obtain ⟨ao2, cp2, ev2⟩ := hr5.form
          obtain ⟨LA, hLA⟩ : ∃ x, x = (natsI (listS (atSet bk j S))).length := ⟨_, rfl⟩
          rw [← hLA] at ev2
          subst ev2
          clear hLA
          clear hr5 hb5 hci q0 q1 q2 hi
          go_wp2_with fail
          refine wp_region_held_drew (S := SameX (fun _ => False) V5.heap.size V5) (by kernel_rfl) (SameX.drew _ _ _) (fun hSw => ?_)
          refine tH 0 (.slice (some ⟨go2, of2, none⟩) K ci) hSw ?_
          try simp only [nS]
          refine tH 1 (.int .i64 (j : Int)) hSw ?_
          try simp only [nS]
          refine tG 2 (.pointer (some ⟨go2, of2 + j * 6, none⟩)) hSw (fun W hW => ?_) ?_
          · first | (go_simp; done) | (go_simp; omega) | rfl
          try simp only [nS]
          refine tG 3 i.val hSw (fun W hW => ?_) ?_
          · have i0 := hW.cell (by dsimp only; omega) id i0
            have i1 := hW.cell (by dsimp only; omega) id i1
            have i2 := hW.cell (by dsimp only; omega) id i2
            have i3 := hW.cell (by dsimp only; omega) id i3
            have i4 := hW.cell (by dsimp only; omega) id i4
            have i5 := hW.cell (by dsimp only; omega) id i5
            unfold In.val
            first | (go_simp; done) | rfl
          try simp only [nS]
          refine tH 5 (.slice (some ⟨go2, of2, none⟩) K ci) hSw ?_
          try simp only [nS]
          refine tH 6 (.int .i64 (j : Int)) hSw ?_
          try simp only [nS]
          refine tG 7 (.pointer (some ⟨go2, of2 + j * 6, none⟩)) hSw (fun W hW => ?_) ?_
          · first | (go_simp; done) | (go_simp; omega) | rfl
          try simp only [nS]
          refine tG 8 i.val hSw (fun W hW => ?_) ?_
          · have i0 := hW.cell (by dsimp only; omega) id i0
            have i1 := hW.cell (by dsimp only; omega) id i1
            have i2 := hW.cell (by dsimp only; omega) id i2
            have i3 := hW.cell (by dsimp only; omega) id i3
            have i4 := hW.cell (by dsimp only; omega) id i4
            have i5 := hW.cell (by dsimp only; omega) id i5
            unfold In.val
            first | (go_simp; done) | rfl
          try simp only [nS]
          clear i0 i1 i2 i3 i4 i5
          refine tR 4 (fun K hK => ?_)
          clear hSw
          go_simp
          refine (reads_any i _).mono ?_; rintro e V6 ⟨v3, rfl, hr6, hb6⟩
          have hb6' : Below V5.heap.size V5 V6 := ⟨hb6.os, hb6.tape, hb6.output, hb6.size, hb6.block⟩
          have hv6 := hb6'.size
          have HB56 := Lib.hid hb6'
          have HR6 := Lib.hid (hr6.down (Nat.zero_le _))
          obtain ⟨ao3, cp3, ev3⟩ := hr6.form
          obtain ⟨LR, hLR⟩ : ∃ x, x = (readsL i).length := ⟨_, rfl⟩
          rw [← hLR] at ev3
          subst ev3
          clear hLR
          clear hr6 hb6 hb6'
          refine hK.out _ _ (fun k hk _ => HB56.out.block k hk) (fun hSw => ?_)
          clear hK K
          try simp only [nS]
          refine tR 9 (fun K hK => ?_)
          clear hSw
          go_simp
          refine (writes_any i _).mono ?_; rintro e V7 ⟨rfl, hb7⟩
          have hv7 := hb7.size
          have HB57 := Lib.hid (HB56.out.trans (hb7.mono HB56.out.size))
          have HR7 := Lib.hid (HR6.out.belowK hb7)
          have HA7 := Lib.hid (HR5.out.belowK HB57.out)
          have HRB7 := Lib.hid (HRB5.out.belowK HB57.out)
          have HU7 := Lib.hid (HU5.out.trans (HB57.out.mono HU5.out.size))
          have HW7 := Lib.hid (HW5.out.trans (HB57.out.mono HW5.out.size))
          have HG7 := Lib.hid ((HB57.out.block w.heap.size (by omega)).trans HG5.out)
          clear hb7
          refine hK.out _ _ (fun k hk _ => HB57.out.block k hk) (fun hSw => ?_)
          clear hK K
          try simp only [nS]
          refine tH 10 (.slice ao3 LR cp3) hSw ?_
          try simp only [nS]
          refine tH 11 (.int .i64 (wrI i)) hSw ?_
          try simp only [nS]
          refine wpAnyH_done (by kernel_rfl) ?_ _
          have HST := Lib.hid (fun (r : Nat) => step_has (R := g.refs.length) HGL.out.reg HS.out HII.out (((HGL.out.fit bk (List.mem_of_getElem? hbk)).ins i (List.mem_of_getElem? HII.out))) r)
          have HHA := Lib.hid (fun (r : Nat) => has_any _ _ 0 (r : Int) V7 HA7.out (natsI_le _))
          have HHB := Lib.hid (fun (r : Nat) => has_any _ _ 0 (r : Int) V7 HRB7.out (natsI_le _))
          have HHR := Lib.hid (fun (r : Nat) => has_any _ _ 0 (r : Int) V7 HR7.out (by have := reads_len i; omega))
          obtain ⟨wi, hwi⟩ : ∃ x, x = wrI i := ⟨_, rfl⟩
          rw [← hwi] at HST
          rw [← hwi]
          have hNR1 : NR ≤ 1024 := by rw [HNR.out]; exact HGL.out.reg
          clear hwi
          go_wp2_with fail
          go_loopw [14] (fun q wr => ∃ r : Nat, r ≤ NR ∧ q = .int .i64 (r : Int) ∧ wr = V7) (fun q _ => NR - (intOf q).toNat)
          case atStart => exact ⟨0, Nat.zero_le _, rfl, rfl⟩
          case round =>
            obtain ⟨r, hrN, rfl, hwv⟩ := hrel
            subst hwv
            rename World => V8
            obtain ⟨q0, q1, q2⟩ := own3 HG7.out
            by_cases hr2 : r < NR
            · have hlt : decide ((r : Int) < (NR : Int)) = true := by simp; omega
              have hst := HST.out r
              have HHa := Lib.hid (HHA.out r)
              have HHb := Lib.hid (HHB.out r)
              have HHr := Lib.hid (HHR.out r)
              generalize decide ((r : Int) ∈ natsI (listS (atSet bk j S))) = xa at hst HHa
              generalize decide ((r : Int) ∈ natsI (listS (atSet bk (j + 1) S))) = xb at hst HHb
              generalize decide ((r : Int) ∈ readsL i) = xr at hst HHr
              cases hd : ((r : Int) != wi) <;> rw [hd] at hst <;> cases xr <;> cases xb <;> simp only [Bool.or_true, Bool.true_or, Bool.false_or, Bool.and_true, Bool.and_false, Bool.false_and, Bool.or_false, Bool.true_and] at hst <;> subst hst
              all_goals
                go_wp2_with fail
                refine HHa.out.mono ?_; rintro e u1 ⟨rfl, rfl⟩
                go_wp2_with fail
                refine HHr.out.mono ?_; rintro e u2 ⟨rfl, rfl⟩
                go_wp2_with fail
                try (refine HHb.out.mono ?_; rintro e u3 ⟨rfl, rfl⟩; go_wp2_with fail)
                go_roundw
                case rel => exact ⟨r + 1, by omega, by go_num, trivial⟩
                case measure => simp [intOf]; omega
            · have hre : r = NR := by omega
              subst hre
              have hlt : decide ((r : Int) < (r : Int)) = false := by simp
              go_wp2_with fail
              go_roundw
              case rel => exact ⟨j, by go_num, by omega, HA7, HW7⟩
              case measure => simp [intOf] <;> omega
end Go.Proofs.YtgkjhnghibpeoaaDoor
