/- The law of what lies on every way, called: it answers true. -/
import Derived.Test.YtjleeoldeakpdaaRows
import Derived.Test.YtjleeoldeakpdaaFlAhdW
import Derived.Test.YtjleeoldeakpdaaFlDomW
import Derived.Test.YtjleeoldeakpdaaFlSize
import Derived.Test.YtjleeoldeakpdaaIrLeaf
import Derived.Test.YtjleeoldeakpdaaFlMem
import Derived.Test.YtjleeoldeakpdaaParseOrder
import Derived.LoopTactic
import Derived.LoopN
import Derived.Deep.LoopGhost
import Derived.WalkKit
import Derived.WalkSpells
import Derived.WalkLawsBesides
import Derived.Lib.Hide
import Derived.OrdersHeld
import Derived.Deep.RegionHeld
import Derived.Deep.DrawnRows
import Derived.RegionTactic
import Derived.Deep.RegionHeld3
import Derived.IntWalk
import Derived.Deep.QuietTactic
import Derived.BigQuiet
namespace Go.Proofs.Ytjleeoldeakpdaa
open Go.RowKit
set_option maxRecDepth 1000000
attribute [local go_sem ↓] bld_eq bls_eq


theorem bitAt_get {l : List Bool} {n : Nat} (h : bitAt l n = true) : l[n]? = some true := by
  unfold bitAt at h
  cases e : l[n]? with
  | none => rw [e] at h; simp at h
  | some v => rw [e] at h; simp at h; rw [h]
theorem ahd_nil {bl : List Bk} {R : List Bool} (hR : ∀ x, bitAt R x = true ↔ Rc bl x) {k y : Nat} (hy : ¬ Rc bl y) : ahdR bl R k y = [] := by
  unfold ahdR
  rw [List.filter_eq_nil_iff]
  intro n _ hh
  simp only [Bool.and_eq_true] at hh
  have h1 := (hR n).1 hh.1
  have h2 := hh.2
  unfold goesB at h2
  cases hb : bl[n]? with
  | none => rw [hb] at h2; simp at h2
  | some b =>
    rw [hb] at h2
    have h3 := h1.step hb (of_decide_eq_true h2)
    rw [Int.toNat_natCast] at h3
    exact hy h3
theorem ahd_in {bl : List Bk} {R : List Bool} (hR : ∀ x, bitAt R x = true ↔ Rc bl x) {k y n : Nat} {b : Bk} (hn : Rc bl n) (hb : bl[n]? = some b) (hy : (y : Int) ∈ nextF b) (hk : n < k) : n ∈ ahdR bl R k y := by
  unfold ahdR
  rw [List.mem_filter]
  refine ⟨List.mem_range.2 hk, ?_⟩
  simp only [Bool.and_eq_true]
  refine ⟨(hR n).2 hn, ?_⟩
  unfold goesB
  rw [hb]
  exact decide_eq_true hy
set_option maxHeartbeats 64000000 in
theorem doms_law (HA : ∀ w, Calls Try.prog 10 #[] w fun e w' => e = .returned (.bool true) ∧ Below w.heap.size w w') (g : Gr) (w : World) (hI : GIn w w.heap.size g) :
    Calls Try.prog 3 #[.agg #[g.rv, .int .i64 g.sites, g.bv]] w fun e w' => e = .returned (.bool true) ∧ Below w.heap.size w w' := by
  have HA := Lib.hid HA
  have HI := Lib.hid hI
  obtain ⟨bo, bcp, eb, hbl, hbg⟩ := hI.blies.form
  obtain ⟨ro, rcp, er, -, -⟩ := hI.rlies.form
  obtain ⟨N, hN⟩ : ∃ N, N = g.blocks.length := ⟨_, rfl⟩
  rw [← hN] at eb hbg hbl
  obtain ⟨W0, hW0⟩ : ∃ W0, W0 = w.alloc (.cells #[g.rv, .int .i64 g.sites, g.bv] 25) := ⟨_, rfl⟩
  have hB0 : Below w.heap.size w W0 := by rw [hW0]; exact below_box w _
  have hz0 : w.heap.size < W0.heap.size := by rw [hW0]; simp
  have hG0 : W0.heap[w.heap.size]? = some (.cells #[g.rv, .int .i64 g.sites, g.bv] 25 (0, 0)) := by rw [hW0]; exact (MapKept.heap_alloc _ _).1
  have hcs := gsize_any w.heap.size g W0 (hI.keeps hB0) hB0.size
  have hrc := fun (u : World) (hu : Below w.heap.size w u) (hm : mayB g = true) => reach_any w.heap.size g u (hI.keeps hu) hu.size hm
  have hrn := fun (u : World) (hu : Below w.heap.size w u) (hm : mayB g = false) => reach_no w.heap.size g u (hI.keeps hu) hu.size hm
  have har := fun (u : World) (hu : Below w.heap.size w u) (hm : mayB g = true) => ahead_any w.heap.size g u (hI.keeps hu) hu.size hm
  have han := fun (u : World) (hu : Below w.heap.size w u) (hm : mayB g = false) => ahead_no w.heap.size g u (hI.keeps hu) hu.size hm
  have hdr := fun (u : World) (hu : Below w.heap.size w u) (hm : mayB g = true) => dom_any w.heap.size g u (fok_of hm) (hI.keeps hu) hu.size (fun u2 h2 => (may_any w.heap.size g u2 (hI.keeps (hu.trans (h2.mono hu.size))) (by have := h2.size; have := hu.size; omega)).mono fun e w' hh => ⟨by rw [hh.1, hm], hh.2⟩)
  have hdn := fun (u : World) (hu : Below w.heap.size w u) (hm : mayB g = false) => fdom_no w.heap.size g u (hI.keeps hu) hu.size hm
  have hir := fun (u : World) (hu : Below w.heap.size w u) (hm : mayB g = true) => inside_any w.heap.size g u (hI.keeps hu) hu.size hm
  have hin := fun (u : World) (hu : Below w.heap.size w u) (hm : mayB g = false) => inside_no w.heap.size g u (hI.keeps hu) hu.size hm
  obtain ⟨rv, hrv⟩ : ∃ x, x = g.rv := ⟨_, rfl⟩
  obtain ⟨st, hst⟩ : ∃ x, x = g.sites := ⟨_, rfl⟩
  rw [er] at hrv
  obtain ⟨NR, hNR⟩ : ∃ x, x = g.refs.length := ⟨_, rfl⟩
  rw [er, eb, ← hst, ← hNR] at hW0 hG0 hcs hrc hrn har han hdr hdn hir hin ⊢
  clear hrv
  obtain ⟨q0, q1, q2⟩ := own3 hG0
  have HCS := Lib.hid hcs
  have HRC := Lib.hid hrc
  have HRN := Lib.hid hrn
  have HAR := Lib.hid har
  have HAN := Lib.hid han
  have HDR := Lib.hid hdr
  have HDN := Lib.hid hdn
  have HIR := Lib.hid hir
  have HIN := Lib.hid hin
  have HB0 := Lib.hid hB0
  have HG0 := Lib.hid hG0
  have HW0 := Lib.hid hW0
  have HN := Lib.hid hN
  have HEB := Lib.hid eb
  have e1 := fun (n : Int) (u : World) => bls_of 34 3 1 1 #[(0, .int .i64 n)] #[.int .i64 n] (by kernel_rfl) (by kernel_rfl) (by kernel_rfl) (by decide) (by decide) (by kernel_rfl) (by kernel_rfl) u
  rw [hW0] at q0 q1 q2
  clear hI hB0 hG0 hW0 hcs hrc hrn har han hdr hdn hir hin eb er hst hNR hN
  go_enter Try.func3, Try.ntmps3
  go_wp2_with fail
  rw [← HW0.out]
  clear q0 q1 q2
  refine HCS.out.mono ?_; rintro e V1 ⟨⟨n1, rfl, hn0, hn1⟩, hb1⟩
  have HU1 := Lib.hid (HB0.out.trans (hb1.mono (Nat.le_of_lt hz0)))
  have HG1 := Lib.hid ((hb1.block w.heap.size hz0).trans HG0.out)
  have hz1 : w.heap.size < V1.heap.size := by have := hb1.size; omega
  clear hb1
  go_wp2_with fail
  obtain ⟨V2, hu2⟩ : ∃ V2, V2 = V1.alloc (.cells #[.int .i64 n1] 3) := ⟨_, rfl⟩
  have hU2 : Below w.heap.size w V2 := by rw [hu2]; exact HU1.out.alloc (Nat.le_of_lt hz1) _
  have hg2 : V2.heap[w.heap.size]? = some (.cells #[.slice ro NR rcp, .int .i64 st, .slice bo N bcp] 25 (0, 0)) := by rw [hu2]; exact (Below.heap_alloc _ _ _ hz1).trans HG1.out
  have HBY := Lib.hid (beyond_any V1.heap.size n1 3 (0, 0) V2 hn0 hn1 (by rw [hu2]; exact (MapKept.heap_alloc _ _).1))
  have hu2' : V2 = V1.alloc (.cells #[.int .i64 n1] 3) := hu2
  rw [← hu2']
  have HU2 := Lib.hid hU2
  have HG2 := Lib.hid hg2
  have hz2 : w.heap.size < V2.heap.size := (Array.getElem?_eq_some_iff.1 hg2).1
  clear hu2 hu2' hU2 hg2
  refine HBY.out.mono ?_; rintro e V2' ⟨rfl, rfl⟩
  cases hdec : decide (262144 < n1) with
  | true =>
    clear hdec
    go_wp2_with fail
    go_ret
    exact ⟨rfl, HU2.out⟩
  | false =>
  clear hdec
  cases HMB : mayB g with
  | false =>
    obtain ⟨q0, q1, q2⟩ := own3 HG2.out
    go_wp2_with fail
    clear q0 q1 q2
    refine (HRN.out V2 HU2.out HMB).mono ?_; rintro e V3 ⟨rfl, hb3⟩
    have hs3 := hb3.size
    have HU3 := Lib.hid (HU2.out.trans (hb3.mono (Nat.le_of_lt hz2)))
    have HG3 := Lib.hid ((hb3.block w.heap.size hz2).trans HG2.out)
    have hz3 : w.heap.size < V3.heap.size := by omega
    clear hb3
    obtain ⟨q0, q1, q2⟩ := own3 HG3.out
    go_wp2_with fail
    clear q0 q1 q2
    refine (HAN.out V3 HU3.out HMB).mono ?_; rintro e V4 ⟨rfl, hb4⟩
    have hs4 := hb4.size
    have HU4 := Lib.hid (HU3.out.trans (hb4.mono (Nat.le_of_lt hz3)))
    have HG4 := Lib.hid ((hb4.block w.heap.size hz3).trans HG3.out)
    have hz4 : w.heap.size < V4.heap.size := by omega
    clear hb4
    obtain ⟨q0, q1, q2⟩ := own3 HG4.out
    go_wp2_with fail
    clear q0 q1 q2
    refine (HDN.out V4 HU4.out HMB).mono ?_; rintro e V5 ⟨rfl, hb5⟩
    have hs5 := hb5.size
    have HU5 := Lib.hid (HU4.out.trans (hb5.mono (Nat.le_of_lt hz4)))
    have HG5 := Lib.hid ((hb5.block w.heap.size hz4).trans HG4.out)
    have hz5 : w.heap.size < V5.heap.size := by omega
    clear hb5

    obtain ⟨q0, q1, q2⟩ := own3 HG5.out
    have HAA := HA
    go_wp2_with fail
    refine (HA.out _).mono ?_; rintro e u9 ⟨rfl, hb9⟩
    have HB9 := Lib.hid (HU5.out.trans (hb9.mono HU5.out.size))
    clear hb9
    go_wp2_with fail
    go_ret
    exact ⟨rfl, HB9.out⟩
  | true =>
    obtain ⟨q0, q1, q2⟩ := own3 HG2.out
    go_wp2_with fail
    clear q0 q1 q2
    refine (HRC.out V2 HU2.out HMB).mono ?_; rintro e V3 ⟨R, gR, rfl, hgR, hR, hRl, hRm, hb3⟩
    have hs3 := hb3.size
    have HU3 := Lib.hid (HU2.out.trans (hb3.mono (Nat.le_of_lt hz2)))
    have HG3 := Lib.hid ((hb3.block w.heap.size hz2).trans HG2.out)
    have hz3 : w.heap.size < V3.heap.size := by omega
    have HR3 := Lib.hid hR
    have hgRs : gR < V3.heap.size := (Array.getElem?_eq_some_iff.1 hR).1
    have HRL := Lib.hid hRl
    have HRM := Lib.hid hRm
    rw [← HN.out]
    clear hb3 hR hRl hRm
    obtain ⟨q0, q1, q2⟩ := own3 HG3.out
    go_wp2_with fail
    clear q0 q1 q2
    refine (HAR.out V3 HU3.out HMB).mono ?_; rintro e V4 ⟨gA, vs, A, R2, lo, rfl, hgA, hAM, hlo, hR2, hAI, hb4⟩
    have hs4 := hb4.size
    have HU4 := Lib.hid (HU3.out.trans (hb4.mono (Nat.le_of_lt hz3)))
    have HG4 := Lib.hid ((hb4.block w.heap.size hz3).trans HG3.out)
    have hz4 : w.heap.size < V4.heap.size := by omega
    have HAM := Lib.hid hAM
    have HAI := Lib.hid hAI
    have HR2 := Lib.hid hR2
    have HR4 := Lib.hid ((hb4.block gR hgRs).trans HR3.out)
    rw [← HN.out]
    have HB4 := Lib.hid hb4
    clear hAM hAI hR2 hb4
    obtain ⟨q0, q1, q2⟩ := own3 HG4.out
    go_wp2_with fail
    clear q0 q1 q2
    refine (HDR.out V4 HU4.out HMB).mono ?_; rintro e V5 ⟨o, D, gD, rfl, hgD, hD, ho, hol, hDP, hb5⟩
    have hs5 := hb5.size
    have HU5 := Lib.hid (HU4.out.trans (hb5.mono (Nat.le_of_lt hz4)))
    have HG5 := Lib.hid ((hb5.block w.heap.size hz4).trans HG4.out)
    have hz5 : w.heap.size < V5.heap.size := by omega
    have HD := Lib.hid hD
    have HO := Lib.hid ho
    have HDP := Lib.hid hDP
    have HR5 := Lib.hid ((hb5.block gR (by omega)).trans HR4.out)
    have HAM5 := Lib.hid (HAM.out.keeps hb5)
    rw [← HN.out]
    clear hD ho hDP hb5

    have hok := fok_of HMB
    have hN := HN.out
    have hpos : 0 < N := by rw [hN]; exact hok.pos
    have hn8 : N ≤ 4096 := by rw [hN]; exact hok.room
    rw [← hN] at hol
    have r0 := bitAt_get ((HRM.out 0).2 .base)
    have cr0 := boolA_at HR5.out r0
    have cd0 := intA_at HD.out HDP.out.top
    obtain ⟨q0, q1, q2⟩ := own3 HG5.out
    have HOK := Lib.hid hok
    clear r0 hok hN
    go_wp2_with fail
    clear q0 q1 q2 cr0 cd0
    go_loopw [10] (fun q wr => ∃ b : Nat, 1 ≤ b ∧ b ≤ N ∧ q = .int .i64 (b : Int) ∧ wr = V5) (fun q _ => N - (intOf q).toNat)
    case atStart => exact ⟨1, by omega, by omega, rfl, rfl⟩
    case round =>
      obtain ⟨b, hb1, hbN, rfl, hwv⟩ := hrel
      subst hwv
      rename World => V
      by_cases hlb : b < N
      · have hbl2 : b < g.blocks.length := by rw [← HN.out]; exact hlb
        obtain ⟨bv, hbv⟩ : ∃ bv, R[b]? = some bv := ⟨_, List.getElem?_eq_getElem (by rw [HRL.out]; exact hbl2)⟩
        have crb := boolA_at HR5.out hbv
        have hAb := HAI.out.at' b hbl2
        obtain ⟨v, hv⟩ : ∃ v, vs[b]? = some v := ⟨_, List.getElem?_eq_getElem (by rw [HAM5.out.vlen]; exact hbl2)⟩
        have cA : V.cell? ⟨gA, b, none⟩ = some v := by rw [Lib.cell_of_heap HAM5.out.row]; simpa using hv
        obtain ⟨r, hr⟩ : ∃ r, r = ahdR g.blocks R2 g.blocks.length b := ⟨_, rfl⟩
        rw [← hr] at hAb
        have how := HAM5.out.own b v r hv hAb
        obtain ⟨av, cv, hvf⟩ : ∃ a c, v = .slice a r.length c := by
          rcases how.2 with ⟨q, q2⟩ | ⟨_, _, _, q, _⟩
          · exact ⟨none, 0, by rw [q, q2]⟩
          · exact ⟨_, _, q⟩
        cases bv with
        | false =>
          have hnr : ¬ Rc g.blocks b := fun q => by have := (HRM.out b).2 q; rw [bitAt_some hbv] at this; cases this
          rw [ahd_nil HR2.out hnr] at hr
          subst hr
          have cd := intA_at HD.out (HDP.out.out b hbl2 hnr)
          rw [hvf] at cA
          clear hbv hAb hv how hvf hnr hbl2
          go_wp2_with fail
          go_roundw
          case rel => exact ⟨b + 1, by omega, by omega, by go_num, trivial⟩
          case measure => simp [intOf]; omega
        | true =>
          have hrc := (HRM.out b).1 (bitAt_some hbv)
          obtain ⟨jb, hjb⟩ := List.mem_iff_getElem?.1 ((HO.out.mem b).2 hrc)
          have hj0 : 0 < jb := by
            by_cases e : jb = 0
            · subst e; rw [HO.out.top] at hjb; cases hjb; omega
            · omega
          obtain ⟨j, y, bb, hjj, hy, hbb, hin⟩ := HO.out.par jb b hj0 hjb
          have hry := (HO.out.mem y).1 (List.mem_of_getElem? hy)
          have hmem := ahd_in HR2.out hry hbb hin (hry.lt HOK.out)
          rw [← hr] at hmem
          have hrl : 0 < r.length := List.length_pos_of_mem hmem
          have hrl2 : r.length ≤ 4096 := by have := ahdR_len g.blocks R2 g.blocks.length b; rw [← hr, ← HN.out] at this; omega
          have hjl := some_lt hjb
          obtain ⟨RL, hRL⟩ : ∃ x, x = r.length := ⟨_, rfl⟩
          rw [← hRL] at hvf hrl hrl2
          rw [hvf] at cA
          have HJB := Lib.hid hjb
          clear hbv hAb hv how hvf hrc hjb hy hbb hin hry hmem hr hRL hbl2 hjj
          go_wp2_with fail
          go_loopw [11, 12] (fun a s wr => ∃ (x k j : Nat), a = .int .i64 (x : Int) ∧ s = .int .i64 (k : Int) ∧ Hid (o[j]? = some x) ∧ k + j ≤ jb ∧ wr = V) (fun _ s _ => N + 2 - (intOf s).toNat)
          case atStart => exact ⟨b, 0, jb, rfl, rfl, HJB, by omega, rfl⟩
          case round =>
            obtain ⟨x, k, j, rfl, rfl, HX, hkj, hwv⟩ := hrel
            subst hwv
            by_cases hx0 : x = 0
            · subst hx0
              go_wp2_with fail
              go_roundw
              case rel => exact ⟨b + 1, by omega, by omega, by go_num, trivial⟩
              case measure => simp [intOf]; omega
            · have dx : ((x : Int) != 0) = true := by simp only [bne_iff_ne, ne_eq]; omega
              have hj0' : 0 < j := by
                by_cases e : j = 0
                · have := HX.out; subst e; rw [HO.out.top] at this; cases this; exact absurd rfl hx0
                · omega
              obtain ⟨t, y, htj, hot, hDx, -, -⟩ := HDP.out.at' j x hj0' HX.out
              have hry := (HO.out.mem y).1 (List.mem_of_getElem? hot)
              have hyN : y < N := by rw [HN.out]; exact hry.lt HOK.out
              have hxN : x < N := by rw [HN.out]; exact HO.out.lt HOK.out HX.out
              have cdx := intA_at HD.out hDx
              have cry := boolA_at HR5.out (bitAt_get ((HRM.out y).2 hry))
              have HOT := Lib.hid hot
              have d1 : decide ((N : Int) < (k : Int)) = false := by simp; omega
              have d2 : decide ((y : Int) < 0) = false := by simp
              have d3 : decide ((N : Int) ≤ (y : Int)) = false := by simp; omega
              clear hot hDx hry hx0
              go_wp2_with fail
              go_roundw
              case rel => exact ⟨y, k + 1, t, rfl, by go_num, HOT, by omega, trivial⟩
              case measure => simp [intOf]; omega
      · have hbe : b = N := by omega
        have HAA := HA
        go_wp2_with fail
        refine (HA.out _).mono ?_; rintro e u9 ⟨rfl, hb9⟩
        have HB9 := Lib.hid (HU5.out.trans (hb9.mono HU5.out.size))
        clear hb9
        go_wp2_with fail
        go_ret
        exact ⟨rfl, HB9.out⟩
end Go.Proofs.Ytjleeoldeakpdaa
