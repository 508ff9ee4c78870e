/- The law of ways, called: it answers true. -/
import Derived.Test.YtgkjhnghibpeoaaRows
import Derived.Test.YtgkjhnghibpeoaaFlDoms
import Derived.Test.YtgkjhnghibpeoaaFlLnext
import Derived.Test.YtgkjhnghibpeoaaIrSizes
import Derived.Test.YtgkjhnghibpeoaaFlMem
import Derived.Test.YtgkjhnghibpeoaaParseOrder
import Derived.LoopTactic
import Derived.LoopN
import Derived.Deep.LoopGhost
import Derived.WalkKit
import Derived.WalkSpells
import Derived.WalkLawsBesides
import Derived.Lib.Hide
import Derived.OrdersHeld
import Derived.Deep.RegionHeld
import Derived.Deep.DrawnRows
import Derived.RegionTactic
import Derived.Deep.RegionHeld3
import Derived.IntWalk
import Derived.Deep.QuietTactic
import Derived.BigQuiet
namespace Go.Proofs.Ytgkjhnghibpeoaa
open Go.RowKit
set_option maxRecDepth 1000000
attribute [local go_sem ↓] bld_eq bls_eq


def IcellsF (x : Int) : List Value := [.int .i64 x]
/-- Picks, as they are handed in. -/
def PicIn (w : World) (B : Nat) (v : Value) (l : List Int) : Prop := LiesG IcellsF 1 w B v l ∧ (∀ x ∈ l, -9223372036854775808 ≤ x ∧ x ≤ 9223372036854775807)
theorem PicIn.below {w w' : World} {B : Nat} {v : Value} {l : List Int} (h : PicIn w B v l) (hb : Below B w w') : PicIn w' B v l := ⟨h.1.below hb, h.2⟩
theorem p8_of {V W8 : World} {z go off n gb IL : Nat} {iq : Option Addr} {icap : Nat} {l r y m : Value} {qv : Value} (c8 : ∀ p v, p.block < z → V.cell? p = some v → W8.cell? p = some v) (h : go < z ∧ gb < z) (p0 : V.cell? ⟨go, off + n * 5, none⟩ = some (.slice iq IL icap)) (p1 : V.cell? ⟨go, off + n * 5 + 1, none⟩ = some l) (p2 : V.cell? ⟨go, off + n * 5 + 2, none⟩ = some r) (p3 : V.cell? ⟨go, off + n * 5 + 3, none⟩ = some y) (p4 : V.cell? ⟨go, off + n * 5 + 4, none⟩ = some m) (q2 : V.cell? ⟨gb, 2, none⟩ = some qv) :
    W8.cell? ⟨go, off + n * 5, none⟩ = some (.slice iq IL icap) ∧ W8.cell? ⟨go, off + n * 5 + 1, none⟩ = some l ∧ W8.cell? ⟨go, off + n * 5 + 2, none⟩ = some r ∧ W8.cell? ⟨go, off + n * 5 + 3, none⟩ = some y ∧ W8.cell? ⟨go, off + n * 5 + 4, none⟩ = some m ∧ W8.cell? ⟨gb, 2, none⟩ = some qv :=
  ⟨c8 _ _ h.1 p0, c8 _ _ h.1 p1, c8 _ _ h.1 p2, c8 _ _ h.1 p3, c8 _ _ h.1 p4, c8 _ _ h.2 q2⟩
set_option maxHeartbeats 64000000 in
theorem ways_law (HA : ∀ w, Calls Try.prog 10 #[] w fun e w' => e = .returned (.bool true) ∧ Below w.heap.size w w') (g : Gr) (w : World) (pv : Value) (picks : List Int) (hI : GIn w w.heap.size g) (hP : PicIn w w.heap.size pv picks) :
    Calls Try.prog 3 #[.agg #[g.rv, .int .i64 g.sites, g.bv], pv] w fun e w' => e = .returned (.bool true) ∧ Below w.heap.size w w' := by
  obtain ⟨pq, pc, epv, hpl, hpg⟩ := hP.1.form
  have hpr := hP.1.room
  obtain ⟨np, hnp⟩ : ∃ n, n = picks.length := ⟨_, rfl⟩
  have HP := Lib.hid hP
  subst epv
  rw [← hnp] at hpl hpg hpr ⊢
  have HNP := Lib.hid hnp
  clear hP hnp
  have HA := Lib.hid HA
  have HI := Lib.hid hI
  obtain ⟨bo, bcp, eb, hbl, hbg⟩ := hI.blies.form
  obtain ⟨ro, rcp, er, -, -⟩ := hI.rlies.form
  obtain ⟨N, hN⟩ : ∃ N, N = g.blocks.length := ⟨_, rfl⟩
  rw [← hN] at eb hbg hbl
  obtain ⟨W0, hW0⟩ : ∃ W0, W0 = w.alloc (.cells #[g.rv, .int .i64 g.sites, g.bv] 25) := ⟨_, rfl⟩
  have hB0 : Below w.heap.size w W0 := by rw [hW0]; exact below_box w _
  have hz0 : w.heap.size < W0.heap.size := by rw [hW0]; simp
  have hG0 : W0.heap[w.heap.size]? = some (.cells #[g.rv, .int .i64 g.sites, g.bv] 25 (0, 0)) := by rw [hW0]; exact (MapKept.heap_alloc _ _).1
  have hcs := gsize_any w.heap.size g W0 (hI.keeps hB0) hB0.size
  have hrc := fun (u : World) (hu : Below w.heap.size w u) (hm : mayB g = true) => reach_any w.heap.size g u (hI.keeps hu) hu.size hm
  have hrn := fun (u : World) (hu : Below w.heap.size w u) (hm : mayB g = false) => reach_no w.heap.size g u (hI.keeps hu) hu.size hm
  have har := fun (u : World) (hu : Below w.heap.size w u) (hm : mayB g = true) => ahead_any w.heap.size g u (hI.keeps hu) hu.size hm
  have han := fun (u : World) (hu : Below w.heap.size w u) (hm : mayB g = false) => ahead_no w.heap.size g u (hI.keeps hu) hu.size hm
  have hdr := fun (u : World) (hu : Below w.heap.size w u) (hm : mayB g = true) => dom_any w.heap.size g u (fok_of hm) (hI.keeps hu) hu.size (fun u2 h2 => (may_any w.heap.size g u2 (hI.keeps (hu.trans (h2.mono hu.size))) (by have := h2.size; have := hu.size; omega)).mono fun e w' hh => ⟨by rw [hh.1, hm], hh.2⟩)
  have hdn := fun (u : World) (hu : Below w.heap.size w u) (hm : mayB g = false) => fdom_no w.heap.size g u (hI.keeps hu) hu.size hm
  have hir := fun (u : World) (hu : Below w.heap.size w u) (hm : mayB g = true) => inside_any w.heap.size g u (hI.keeps hu) hu.size hm
  have hin := fun (u : World) (hu : Below w.heap.size w u) (hm : mayB g = false) => inside_no w.heap.size g u (hI.keeps hu) hu.size hm
  obtain ⟨rv, hrv⟩ : ∃ x, x = g.rv := ⟨_, rfl⟩
  obtain ⟨st, hst⟩ : ∃ x, x = g.sites := ⟨_, rfl⟩
  rw [er] at hrv
  obtain ⟨NR, hNR⟩ : ∃ x, x = g.refs.length := ⟨_, rfl⟩
  rw [er, eb, ← hst, ← hNR] at hW0 hG0 hcs hrc hrn har han hdr hdn hir hin ⊢
  clear hrv
  obtain ⟨q0, q1, q2⟩ := own3 hG0
  have HCS := Lib.hid hcs
  have HRC := Lib.hid hrc
  have HRN := Lib.hid hrn
  have HAR := Lib.hid har
  have HAN := Lib.hid han
  have HDR := Lib.hid hdr
  have HDN := Lib.hid hdn
  have HIR := Lib.hid hir
  have HIN := Lib.hid hin
  have HB0 := Lib.hid hB0
  have HG0 := Lib.hid hG0
  have HW0 := Lib.hid hW0
  have HN := Lib.hid hN
  have HEB := Lib.hid eb
  have e1 := fun (n : Int) (u : World) => bls_of 26 3 1 1 #[(0, .int .i64 n)] #[.int .i64 n] (by kernel_rfl) (by kernel_rfl) (by kernel_rfl) (by decide) (by decide) (by kernel_rfl) (by kernel_rfl) u
  rw [hW0] at q0 q1 q2
  clear hI hB0 hG0 hW0 hcs hrc hrn har han hdr hdn hir hin eb er hst hNR hN
  go_enter Try.func3, Try.ntmps3
  go_wp2_with fail
  rw [← HW0.out]
  clear q0 q1 q2
  refine HCS.out.mono ?_; rintro e V1 ⟨⟨n1, rfl, hn0, hn1⟩, hb1⟩
  have HU1 := Lib.hid (HB0.out.trans (hb1.mono (Nat.le_of_lt hz0)))
  have HG1 := Lib.hid ((hb1.block w.heap.size hz0).trans HG0.out)
  have hz1 : w.heap.size < V1.heap.size := by have := hb1.size; omega
  clear hb1
  go_wp2_with fail
  obtain ⟨V2, hu2⟩ : ∃ V2, V2 = V1.alloc (.cells #[.int .i64 n1] 3) := ⟨_, rfl⟩
  have hU2 : Below w.heap.size w V2 := by rw [hu2]; exact HU1.out.alloc (Nat.le_of_lt hz1) _
  have hg2 : V2.heap[w.heap.size]? = some (.cells #[.slice ro NR rcp, .int .i64 st, .slice bo N bcp] 25 (0, 0)) := by rw [hu2]; exact (Below.heap_alloc _ _ _ hz1).trans HG1.out
  have HBY := Lib.hid (beyond_any V1.heap.size n1 3 (0, 0) V2 hn0 hn1 (by rw [hu2]; exact (MapKept.heap_alloc _ _).1))
  have hu2' : V2 = V1.alloc (.cells #[.int .i64 n1] 3) := hu2
  rw [← hu2']
  have HU2 := Lib.hid hU2
  have HG2 := Lib.hid hg2
  have hz2 : w.heap.size < V2.heap.size := (Array.getElem?_eq_some_iff.1 hg2).1
  clear hu2 hu2' hU2 hg2
  refine HBY.out.mono ?_; rintro e V2' ⟨rfl, rfl⟩
  cases hdec : decide (262144 < n1) with
  | true =>
    clear hdec
    go_wp2_with fail
    go_ret
    exact ⟨rfl, HU2.out⟩
  | false =>
  clear hdec
  cases HMB : mayB g with
  | false =>
    obtain ⟨q0, q1, q2⟩ := own3 HG2.out
    go_wp2_with fail
    clear q0 q1 q2
    refine (HRN.out V2 HU2.out HMB).mono ?_; rintro e V3 ⟨rfl, hb3⟩
    have hs3 := hb3.size
    have HU3 := Lib.hid (HU2.out.trans (hb3.mono (Nat.le_of_lt hz2)))
    have HG3 := Lib.hid ((hb3.block w.heap.size hz2).trans HG2.out)
    have hz3 : w.heap.size < V3.heap.size := by omega
    clear hb3
    obtain ⟨q0, q1, q2⟩ := own3 HG3.out
    go_wp2_with fail
    clear q0 q1 q2
    refine (HAN.out V3 HU3.out HMB).mono ?_; rintro e V4 ⟨rfl, hb4⟩
    have hs4 := hb4.size
    have HU4 := Lib.hid (HU3.out.trans (hb4.mono (Nat.le_of_lt hz3)))
    have HG4 := Lib.hid ((hb4.block w.heap.size hz3).trans HG3.out)
    have hz4 : w.heap.size < V4.heap.size := by omega
    clear hb4
    obtain ⟨q0, q1, q2⟩ := own3 HG4.out
    go_wp2_with fail
    clear q0 q1 q2
    refine (HDN.out V4 HU4.out HMB).mono ?_; rintro e V5 ⟨rfl, hb5⟩
    have hs5 := hb5.size
    have HU5 := Lib.hid (HU4.out.trans (hb5.mono (Nat.le_of_lt hz4)))
    have HG5 := Lib.hid ((hb5.block w.heap.size hz4).trans HG4.out)
    have hz5 : w.heap.size < V5.heap.size := by omega
    clear hb5
    obtain ⟨q0, q1, q2⟩ := own3 HG5.out
    go_wp2_with fail
    clear q0 q1 q2
    refine (HIN.out V5 HU5.out HMB).mono ?_; rintro e V6 ⟨rfl, hb6⟩
    have hs6 := hb6.size
    have HU6 := Lib.hid (HU5.out.trans (hb6.mono (Nat.le_of_lt hz5)))
    have HG6 := Lib.hid ((hb6.block w.heap.size hz5).trans HG5.out)
    have hz6 : w.heap.size < V6.heap.size := by omega
    clear hb6

    have HAA := HA
    go_wp2_with fail
    refine (HA.out _).mono ?_; rintro e u9 ⟨rfl, hb9⟩
    have HB9 := Lib.hid (HU6.out.trans (hb9.mono HU6.out.size))
    clear hb9
    go_wp2_with fail
    go_ret
    exact ⟨rfl, HB9.out⟩
  | true =>
    obtain ⟨q0, q1, q2⟩ := own3 HG2.out
    go_wp2_with fail
    clear q0 q1 q2
    refine (HRC.out V2 HU2.out HMB).mono ?_; rintro e V3 ⟨R, gR, rfl, hgR, hR, hRl, hRm, hb3⟩
    have hs3 := hb3.size
    have HU3 := Lib.hid (HU2.out.trans (hb3.mono (Nat.le_of_lt hz2)))
    have HG3 := Lib.hid ((hb3.block w.heap.size hz2).trans HG2.out)
    have hz3 : w.heap.size < V3.heap.size := by omega
    have HR3 := Lib.hid hR
    have hgRs : gR < V3.heap.size := (Array.getElem?_eq_some_iff.1 hR).1
    have HRL := Lib.hid hRl
    have HRM := Lib.hid hRm
    rw [← HN.out]
    clear hb3 hR hRl hRm
    obtain ⟨q0, q1, q2⟩ := own3 HG3.out
    go_wp2_with fail
    clear q0 q1 q2
    refine (HAR.out V3 HU3.out HMB).mono ?_; rintro e V4 ⟨gA, vs, A, R2, lo, rfl, hgA, hAM, hlo, hR2, hAI, hb4⟩
    have hs4 := hb4.size
    have HU4 := Lib.hid (HU3.out.trans (hb4.mono (Nat.le_of_lt hz3)))
    have HG4 := Lib.hid ((hb4.block w.heap.size hz3).trans HG3.out)
    have hz4 : w.heap.size < V4.heap.size := by omega
    have HAM := Lib.hid hAM
    have HAI := Lib.hid hAI
    have HR2 := Lib.hid hR2
    have HR4 := Lib.hid ((hb4.block gR hgRs).trans HR3.out)
    rw [← HN.out]
    clear hAM hAI hR2 hb4
    obtain ⟨q0, q1, q2⟩ := own3 HG4.out
    go_wp2_with fail
    clear q0 q1 q2
    refine (HDR.out V4 HU4.out HMB).mono ?_; rintro e V5 ⟨o, D, gD, rfl, hgD, hD, ho, hol, hDP, hb5⟩
    have hs5 := hb5.size
    have HU5 := Lib.hid (HU4.out.trans (hb5.mono (Nat.le_of_lt hz4)))
    have HG5 := Lib.hid ((hb5.block w.heap.size hz4).trans HG4.out)
    have hz5 : w.heap.size < V5.heap.size := by omega
    have HD := Lib.hid hD
    have hgDs : gD < V5.heap.size := (Array.getElem?_eq_some_iff.1 hD).1
    have HO := Lib.hid ho
    have HDP := Lib.hid hDP
    have HR5 := Lib.hid ((hb5.block gR (by omega)).trans HR4.out)
    have HAM5 := Lib.hid (HAM.out.keeps hb5)
    rw [← HN.out]
    clear hD ho hDP hb5 hol
    obtain ⟨q0, q1, q2⟩ := own3 HG5.out
    go_wp2_with fail
    clear q0 q1 q2
    refine (HIR.out V5 HU5.out HMB).mono ?_; rintro e V6 ⟨I, gI, rfl, hgI, hI6, hIP, hb6⟩
    have hs6 := hb6.size
    have HU6 := Lib.hid (HU5.out.trans (hb6.mono (Nat.le_of_lt hz5)))
    have HG6 := Lib.hid ((hb6.block w.heap.size hz5).trans HG5.out)
    have hz6 : w.heap.size < V6.heap.size := by omega
    have HI6 := Lib.hid hI6
    have HIP := Lib.hid hIP
    have HR6 := Lib.hid ((hb6.block gR (by omega)).trans HR5.out)
    have HD6 := Lib.hid ((hb6.block gD hgDs).trans HD.out)
    have HAM6 := Lib.hid (HAM5.out.keeps hb6)
    rw [← HN.out]
    clear hI6 hIP hb6

    have hok := fok_of HMB
    have hN := HN.out
    have hpos : 0 < N := by rw [hN]; exact hok.pos
    have hn8 : N ≤ 4096 := by rw [hN]; exact hok.room
    have HOK := Lib.hid hok
    have mk := make_bool N (by omega)
    obtain ⟨M1, hM1⟩ : ∃ M, M = boolA (List.replicate N false) := ⟨_, rfl⟩
    rw [← hM1] at mk
    obtain ⟨W7, hW7⟩ : ∃ W7, W7 = V6.alloc (.cells M1 4) := ⟨_, rfl⟩
    have hM7 : W7.heap[V6.heap.size]? = some (.cells (boolA (List.replicate N false)) 4 (0, 0)) := by rw [hW7, hM1]; exact (MapKept.heap_alloc _ _).1
    have hz7 : W7.heap.size = V6.heap.size + 1 := by rw [hW7]; simp
    have hb7 : Below V6.heap.size V6 W7 := by rw [hW7]; exact below_box V6 _
    obtain ⟨q0, q1, q2⟩ := own3 HG6.out
    have HM7 := Lib.hid hM7
    have HB7 := Lib.hid hb7
    have HW7 := Lib.hid hW7
    clear hok hN hM1 hW7 hM7 hb7
    go_wp2_with fail
    rw [← HW7.out]
    clear q0 q1 q2
    have hgR6 : gR < V6.heap.size := by omega
    have hgD6 : gD < V6.heap.size := by omega
    have hgI6 := (Array.getElem?_eq_some_iff.1 HI6.out).1
    clear hz0 hz1 hz2 hz3 hz4 hz5 hs3 hs4 hs5 hs6 hgRs hgDs hgR hgA hlo hgD hgI hn0 hn1 hbl
    clear HCS HRC HRN HAR HAN HDR HDN HIR HIN HB0 HG0 HW0 HU1 HG1 HU2 HG2 HU3 HG3 HU4 HG4 HU5 HG5 HBY HR3 HR4 HR5 HD HAM HAM5 mk e1
    go_loopw [14, 15, 16] (fun a ins q wr => ∃ (x i : Nat) (io : Bool), a = .int .i64 (x : Int) ∧ ins = .bool io ∧ q = .int .i64 (i : Int) ∧ i ≤ np ∧ Hid (∃ Mt M, Wy g.blocks x M ∧ Rch g.blocks x (if io = true then 2 else 1) ∧ wr.heap[V6.heap.size]? = some (.cells (boolA Mt) 4 (0, 0)) ∧ Mt.length = N ∧ (∀ y ∈ M, y ≠ x → bitAt Mt y = true) ∧ Below V6.heap.size V6 wr)) (fun _ _ q _ => np + 1 - (intOf q).toNat)
    case atStart => exact ⟨0, 0, false, rfl, rfl, rfl, by omega, Lib.hid ⟨_, [0], .base, .base, HM7.out, by simp, fun y hy hne => by simp at hy; exact absurd hy hne, HB7.out⟩⟩
    case round => as_aux_lemma =>
      rename World => V
      obtain ⟨x, i, io, rfl, rfl, rfl, hin, HR⟩ := hrel
      obtain ⟨Mt, M, hWy, hRch, hMt, hMl, hMM, hbV⟩ := HR.out
      have hsV := hbV.size
      have hrc := hWy.rc
      have hxl := hrc.lt HOK.out
      have hxN : x < N := by rw [HN.out]; exact hxl
      obtain ⟨z, hz⟩ : ∃ z, Mt[x]? = some z := ⟨_, List.getElem?_eq_getElem (by rw [hMl]; exact hxN)⟩
      have cM := boolA_at hMt hz
      have fM := Lib.frozen_of_heap hMt x
      obtain ⟨W8, hW8⟩ : ∃ W8, W8 = V.setCell ⟨V6.heap.size, x, none⟩ (.bool true) := ⟨_, rfl⟩
      have hM8 : W8.heap[V6.heap.size]? = some (.cells (boolA (Mt.set x true)) 4 (0, 0)) := by rw [hW8]; exact boolA_set hMt x true
      have hb8 : Below V6.heap.size V6 W8 := by rw [hW8]; exact hbV.setCell (by show V6.heap.size ≤ V6.heap.size; omega) _
      have hz8 : W8.heap.size = V.heap.size := by rw [hW8, size_set]
      have hall : ∀ y ∈ M, bitAt (Mt.set x true) y = true := fun y hy => by
        rw [bitAt_put _ _ _ (by rw [hMl]; exact hxN)]
        by_cases e : y = x
        · simp [e]
        · simp [e, hMM y hy e]
      have blk := fun (b : Nat) (h : b < V6.heap.size) => hbV.block b h
      have cR := boolA_at ((blk gR (by omega)).trans HR6.out) (bitAt_get ((HRM.out x).2 hrc))
      have hIx : I[x]? = some io := by
        obtain ⟨bv, hbv⟩ : ∃ bv, I[x]? = some bv := ⟨_, List.getElem?_eq_getElem (by rw [HIP.out.1]; exact hxl)⟩
        have h1 := HIP.out.2 x
        rw [bitAt_some hbv] at h1
        cases io
        · cases bv
          · exact hbv
          · exact absurd ⟨by simpa using hRch, h1.1 rfl⟩ (HOK.out.side x)
        · cases bv
          · exact absurd (h1.2 (by simpa using hRch)) (by simp)
          · exact hbv
      have gIs := hgI6
      have cI := boolA_at ((blk gI gIs).trans HI6.out) hIx
      have dio : (io != io) = false := by simp
      have hdor : D[x]? = some (-1) ∨ ∃ y : Nat, D[x]? = some (y : Int) ∧ y < N ∧ bitAt (Mt.set x true) y = true := by
        obtain ⟨j, hj⟩ := List.mem_iff_getElem?.1 ((HO.out.mem x).2 hrc)
        by_cases e : j = 0
        · subst e; rw [HO.out.top] at hj; cases hj; exact .inl HDP.out.top
        · obtain ⟨t, y, _, hy, hd, hm, _⟩ := HDP.out.at' j x (by omega) hj
          exact .inr ⟨y, hd, by rw [HN.out]; exact HO.out.lt HOK.out hy, hall y (hm M hWy)⟩
      have hIV := HI.out.keeps (HU6.out.trans (hbV.mono (Nat.le_of_lt hz6)))
      obtain ⟨go, off, rfl, hgo⟩ := hbg (by omega)
      have hat := (hIV.blies.at HEB.out x hxl).2
      have hbi := hIV.blocks _ (List.getElem_mem hxl)
      have hbt : g.blocks[x]? = some g.blocks[x] := List.getElem?_eq_getElem hxl
      generalize g.blocks[x] = bk at hat hbi hbt
      obtain ⟨iq, icap, eiv, hil, hig⟩ := hbi.lies.form
      have HNX := Lib.hid (lnextF_any bk W8 ⟨_, _, _, eiv⟩)
      have HLI := Lib.hid hbi.lies
      have hmark : True := trivial
      obtain ⟨IL, hIL⟩ : ∃ x, x = bk.ins.length := ⟨_, rfl⟩
      rw [← hIL] at eiv hil hig
      have HEIV := Lib.hid eiv
      have hgV := (blk w.heap.size hz6).trans HG6.out
      obtain ⟨p0, p1, p2, p3, p4⟩ := bc hat
      rw [eiv] at p0 HNX
      obtain ⟨q0, q1, q2⟩ := own3 hgV
      obtain ⟨ON, hON⟩ : ∃ b, b = endB bk.ins io := ⟨_, rfl⟩
      have hnextR : ∀ y ∈ nextL bk, Rch g.blocks y.toNat (if ON = true then 2 else 1) := fun y hy => by
        have h1 := hRch.step hbt hy
        have h2 := endB_spec bk.ins io
        have h3 := behL_12 bk.ins (if io = true then 2 else 1) (by split <;> simp)
        rw [← hON] at h2
        by_cases e : ON = true
        · rw [if_pos e]; rw [h2.1 e] at h1; exact h1
        · rw [if_neg e]
          rcases h3 with q | q
          · rw [q] at h1; exact h1
          · exact absurd (h2.2 q) e
      have HWY := Lib.hid hWy
      have HNR := Lib.hid hnextR
      have HM8 := Lib.hid hM8
      have HB8 := Lib.hid hb8
      have HW8 := Lib.hid hW8
      have HALL := Lib.hid hall
      have HBT := Lib.hid hbt
      have HON := Lib.hid (show endB (bk.ins.drop 0) io = ON from hON.symm)
      have HIL := Lib.hid hIL
      have HMl := Lib.hid hMl
      have HRC := Lib.hid hrc
      have hgw : go < w.heap.size := by omega
      have hmlt : V6.heap.size < V.heap.size := (Array.getElem?_eq_some_iff.1 hMt).1
      have c8 : ∀ p v, p.block < V6.heap.size → V.cell? p = some v → W8.cell? p = some v := fun p v hp hc => by
        rw [hW8, World.cell?, Below.heap_setCell _ _ _ _ (by show p.block ≠ V6.heap.size; omega)]; exact hc
      have hbVW : Below V6.heap.size V W8 := by rw [hW8]; exact (Below.refl _ V).setCell (by show V6.heap.size ≤ V6.heap.size; omega) _
      have HLI8 := Lib.hid (HLI.out.below (hbVW.mono (Nat.le_of_lt hz6)))
      have HP8 := Lib.hid (p8_of c8 ⟨by omega, by omega⟩ p0 p1 p2 p3 p4 q2)
      rcases hdor with hd | ⟨y1, hd, hy1N, hy1⟩
      all_goals
        have cD := intA_at ((blk gD hgD6).trans HD6.out) hd
        try have cY := boolA_at hM8 (bitAt_get hy1)
        try rw [hW8] at cY
        clear hWy hRch hMt hMM hbV hM8 hb8 hall blk hIx hd hIV hat hbi hbt eiv hIL hgV hON hnextR hz hrc HR c8 hbVW hW8 hMl
        try clear hy1
        go_wp2_with fail
        rw [← HW8.out]
        clear p0 p1 p2 p3 p4 q0 q1 q2 cM fM cR cI cD
        try clear cY
        go_loopw [15, 17] (fun ins q wr => ∃ (k : Nat) (io2 : Bool), k ≤ IL ∧ q = .int .i64 (k : Int) ∧ ins = .bool io2 ∧ Hid (endB (bk.ins.drop k) io2 = ON) ∧ wr = W8) (fun _ q _ => IL - (intOf q).toNat)
        case atStart => exact ⟨0, io, Nat.zero_le _, rfl, rfl, HON, rfl⟩
        case round => as_aux_lemma =>
          obtain ⟨k, io2, hk, rfl, rfl, HD2, hwv⟩ := hrel
          subst hwv
          rename World => U
          obtain ⟨p0, p1, p2, p3, p4, q2⟩ := HP8.out
          by_cases hlk : k < IL
          · have hkx : k < bk.ins.length := by rw [← HIL.out]; exact hlk
            obtain ⟨gi, offi, rfl, hgi⟩ := hig (by omega)
            have hati := (HLI8.out.at HEIV.out k hkx).2
            have hd2 := HD2.out
            rw [endB_drop (List.getElem?_eq_getElem hkx)] at hd2
            generalize bk.ins[k] = ii at hati hd2
            obtain ⟨i0, i1, i2, i3, i4, i5⟩ := ic hati
            clear i1 i2 i3 i4 i5 hati
            by_cases h13 : ii.k = 13
            · have d13 : (ii.k == 13) = true := by simpa using h13
              rw [if_pos h13] at hd2
              have HDD := Lib.hid hd2
              clear hd2 h13 hkx
              go_wp2_with fail
              go_roundw
              case rel => exact ⟨k + 1, true, hlk, by go_num, rfl, HDD, trivial⟩
              case measure => simp [intOf]; omega
            · have d13 : (ii.k == 13) = false := by simpa using h13
              rw [if_neg h13] at hd2
              by_cases h14 : ii.k = 14
              · have d14 : (ii.k == 14) = true := by simpa using h14
                rw [if_pos h14] at hd2
                have HDD := Lib.hid hd2
                clear hd2 h13 h14 hkx
                go_wp2_with fail
                go_roundw
                case rel => exact ⟨k + 1, false, hlk, by go_num, rfl, HDD, trivial⟩
                case measure => simp [intOf]; omega
              · have d14 : (ii.k == 14) = false := by simpa using h14
                rw [if_neg h14] at hd2
                have HDD := Lib.hid hd2
                clear hd2 h13 h14 hkx
                go_wp2_with fail
                go_roundw
                case rel => exact ⟨k + 1, io2, hlk, by go_num, rfl, HDD, trivial⟩
                case measure => simp [intOf]; omega
          · have hio2 : io2 = ON := by
              have h := HD2.out
              rw [show bk.ins.drop k = [] from List.drop_eq_nil_of_le (by rw [← HIL.out]; omega)] at h
              exact h
            subst hio2
            go_wp2_with fail
            refine HNX.out.mono ?_; rintro e V9 ⟨v9, rfl, hrow, hb9⟩
            obtain ⟨ao9, cap9, rfl⟩ := hrow.form
            have hc9 := nextL_len2 bk
            have hs9 := hb9.size
            have hU9 := HB8.out.trans (hb9.mono HB8.out.size)
            have HU9 := Lib.hid hU9
            have HROW := Lib.hid hrow
            have HM9 := Lib.hid ((hb9.block V6.heap.size (by omega)).trans HM8.out)
            have HAM9 := Lib.hid (HAM6.out.keeps hU9)
            have HP9 := Lib.hid (HP.out.below (HU6.out.trans (hU9.mono (Nat.le_of_lt hz6))))
            obtain ⟨c9, hc9e⟩ : ∃ c, c = (nextL bk).length := ⟨_, rfl⟩
            rw [← hc9e] at hc9 ⊢
            have HC9 := Lib.hid hc9e
            have hbe9 := HU6.out.trans (hU9.mono (Nat.le_of_lt hz6))
            have HBE9 := Lib.hid hbe9
            clear hrow hb9 hU9 hc9e hbe9 p0 p1 p2 p3 p4 q2
            by_cases hend : np ≤ i ∨ c9 = 0
            · have HAA := HA
              rcases hend with hend | rfl
              · go_wp2_with fail
                refine (HA.out _).mono ?_; rintro e u9 ⟨rfl, hbb⟩
                have HBB := Lib.hid (HBE9.out.trans (hbb.mono HBE9.out.size))
                clear hbb
                go_wp2_with fail
                go_ret
                exact ⟨rfl, HBB.out⟩
              · by_cases hend2 : np ≤ i
                · go_wp2_with fail
                  refine (HA.out _).mono ?_; rintro e u9 ⟨rfl, hbb⟩
                  have HBB := Lib.hid (HBE9.out.trans (hbb.mono HBE9.out.size))
                  clear hbb
                  go_wp2_with fail
                  go_ret
                  exact ⟨rfl, HBB.out⟩
                · go_wp2_with fail
                  refine (HA.out _).mono ?_; rintro e u9 ⟨rfl, hbb⟩
                  have HBB := Lib.hid (HBE9.out.trans (hbb.mono HBE9.out.size))
                  clear hbb
                  go_wp2_with fail
                  go_ret
                  exact ⟨rfl, HBB.out⟩
            · have hni : ¬ np ≤ i := fun q => hend (.inl q)
              have hc0 : 0 < c9 := by omega
              obtain ⟨gp, offp, rfl, hgp⟩ := hpg (by omega)
              have hip : i < picks.length := by rw [← HNP.out]; omega
              have cP := (HP9.out.1.at rfl i hip).2 0 (.int .i64 picks[i]) rfl
              rw [Nat.mul_one, Nat.add_zero] at cP
              generalize picks[i] = p at cP
              have hgp9 : gp < V6.heap.size := by omega
              obtain ⟨gM9, offM9, rfl, hgm1, hgm2, n0⟩ := HROW.out.get rfl (k := 0) (by rw [← HC9.out]; exact hc0)
              rw [Nat.add_zero] at n0
              have hnl := HOK.out.next bk (List.mem_of_getElem? HBT.out)
              have hpick : ∃ y : Nat, (y : Int) ∈ nextL bk ∧ (((p.tmod 2 != 0) = false ∧ V9.cell? ⟨gM9, offM9, none⟩ = some (.int .i64 (y : Int))) ∨ ((p.tmod 2 != 0) = true ∧ c9 = 1 ∧ V9.cell? ⟨gM9, offM9, none⟩ = some (.int .i64 (y : Int))) ∨
                  ((p.tmod 2 != 0) = true ∧ c9 = 2 ∧ ∃ z : Nat, V9.cell? ⟨gM9, offM9, none⟩ = some (.int .i64 (z : Int)) ∧ V9.cell? ⟨gM9, offM9 + 1, none⟩ = some (.int .i64 (y : Int)))) := by
                have h0m := List.getElem_mem (l := nextL bk) (n := 0) (by rw [← HC9.out]; exact hc0)
                have h0l := hnl _ h0m
                have e0 : ((((nextL bk)[0]'(by rw [← HC9.out]; exact hc0)).toNat : Nat) : Int) = (nextL bk)[0]'(by rw [← HC9.out]; exact hc0) := Int.toNat_of_nonneg h0l.1
                cases hb : (p.tmod 2 != 0) with
                | false => exact ⟨_, by rw [e0]; exact h0m, .inl ⟨rfl, by rw [e0]; exact n0⟩⟩
                | true =>
                  by_cases hc1 : c9 = 1
                  · exact ⟨_, by rw [e0]; exact h0m, .inr (.inl ⟨rfl, hc1, by rw [e0]; exact n0⟩)⟩
                  · have hc2 : c9 = 2 := by omega
                    have h1lt : 1 < (nextL bk).length := by rw [← HC9.out]; omega
                    obtain ⟨g9, o9, e9, _, _, n1⟩ := HROW.out.get rfl (k := 1) h1lt
                    cases e9
                    have h1m := List.getElem_mem h1lt
                    have e1 : ((((nextL bk)[1]).toNat : Nat) : Int) = (nextL bk)[1] := Int.toNat_of_nonneg (hnl _ h1m).1
                    exact ⟨_, by rw [e1]; exact h1m, .inr (.inr ⟨rfl, hc2, _, by rw [e0]; exact n0, by rw [e1]; exact n1⟩)⟩
              obtain ⟨y, hym, hcs⟩ := hpick
              have hyl := hnl _ hym
              have hyl2 : y < g.blocks.length := by omega
              have hyN : y < N := by rw [HN.out]; exact hyl2
              have hyF : (y : Int) ∈ nextF bk := (nextF_mem (HOK.out.last bk (List.mem_of_getElem? HBT.out))).2 hym
              have hAy := HAI.out.at' y hyl2
              have hxr := ahd_in HR2.out HRC.out HBT.out hyF hxl
              have hrl2 := ahdR_len g.blocks R2 g.blocks.length y
              generalize ahdR g.blocks R2 g.blocks.length y = r at hAy hxr hrl2
              have hrl2 : r.length ≤ 4096 := by have := HN.out; omega
              obtain ⟨v, hv⟩ : ∃ v, vs[y]? = some v := ⟨_, List.getElem?_eq_getElem (by rw [HAM9.out.vlen]; exact hyl2)⟩
              have cA : V9.cell? ⟨gA, y, none⟩ = some v := by rw [Lib.cell_of_heap HAM9.out.row]; simpa using hv
              have how := HAM9.out.own y v r hv hAy
              have hrl : 0 < r.length := List.length_pos_of_mem hxr
              obtain ⟨gv, cv, hvf⟩ : ∃ a c, v = .slice (some ⟨a, 0, none⟩) r.length c := by
                rcases how.2 with ⟨_, q2⟩ | ⟨_, _, _, q, _⟩
                · omega
                · exact ⟨_, _, q⟩
              subst hvf
              have HCE := Lib.hid (fun (k e : Nat) (he : r[k]? = some e) => show V9.cell? ⟨gv, k, none⟩ = some (.int .i64 (e : Int)) by
                rw [how.cellAt k (by have := some_lt he; omega)]
                unfold natsV
                rw [List.getElem?_map, he]
                rfl)
              obtain ⟨RL, hRL⟩ : ∃ x, x = r.length := ⟨_, rfl⟩
              rw [← hRL] at cA hrl hrl2
              have HRLr := Lib.hid hRL
              have HXR := Lib.hid hxr
              have HYM := Lib.hid hym
              have HYF := Lib.hid hyF
              have hgA9 : gA < V9.heap.size := (Array.getElem?_eq_some_iff.1 HAM9.out.row).1
              clear hAy hxr hv how hRL hym hyF hnl hyl n0 hend hip
              rcases hcs with ⟨dp, n0⟩ | ⟨dp, hc1, n0⟩ | ⟨dp, hc1, z, n0, n1⟩
              all_goals
                try subst hc1
                go_wp2_with fail
                go_loopw [20, 21] (fun f q wr => ∃ (k : Nat) (fb : Bool), k ≤ RL ∧ q = .int .i64 (k : Int) ∧ f = .bool fb ∧ Hid (fb = true ↔ x ∈ r.take k) ∧ wr = V9) (fun _ q _ => RL - (intOf q).toNat)
                case atStart => exact ⟨0, false, Nat.zero_le _, rfl, rfl, Lib.hid (by simp), rfl⟩
                case round => as_aux_lemma =>
                  obtain ⟨k, fb, hk, rfl, rfl, HF, hwv⟩ := hrel
                  subst hwv
                  by_cases hlk : k < RL
                  · obtain ⟨e0, he0⟩ : ∃ e, r[k]? = some e := ⟨_, List.getElem?_eq_getElem (by rw [← HRLr.out]; exact hlk)⟩
                    have cE := HCE.out k e0 he0
                    have htk := take_mem (x := x) he0
                    cases fb with
                    | true =>
                      have HQ := Lib.hid (show (true = true ↔ x ∈ r.take (k + 1)) from by rw [htk]; exact ⟨fun _ => .inl (HF.out.1 rfl), fun _ => rfl⟩)
                      clear he0 htk
                      go_wp2_with fail
                      go_roundw
                      case rel => exact ⟨k + 1, true, hlk, by go_num, rfl, HQ, trivial⟩
                      case measure => simp [intOf]; omega
                    | false =>
                      by_cases he : e0 = x
                      · have de : ((e0 : Int) == (x : Int)) = true := by rw [he]; simp
                        have HQ := Lib.hid (show (true = true ↔ x ∈ r.take (k + 1)) from by rw [htk]; exact ⟨fun _ => .inr he.symm, fun _ => rfl⟩)
                        clear he0 htk he
                        go_wp2_with fail
                        go_roundw
                        case rel => exact ⟨k + 1, true, hlk, by go_num, rfl, HQ, trivial⟩
                        case measure => simp [intOf]; omega
                      · have de : ((e0 : Int) == (x : Int)) = false := by simp only [beq_eq_false_iff_ne, ne_eq]; omega
                        have HQ := Lib.hid (show (false = true ↔ x ∈ r.take (k + 1)) from by
                          rw [htk]
                          refine ⟨fun q => (by cases q), fun q => ?_⟩
                          rcases q with q | q
                          · exact HF.out.2 q
                          · exact absurd q.symm he)
                        clear he0 htk he
                        go_wp2_with fail
                        go_roundw
                        case rel => exact ⟨k + 1, false, hlk, by go_num, rfl, HQ, trivial⟩
                        case measure => simp [intOf]; omega
                  · have hfb : fb = true := HF.out.2 (by rw [List.take_of_length_le (by rw [← HRLr.out]; omega)]; exact HXR.out)
                    subst hfb
                    have HQ := Lib.hid (show ∃ Mt M, Wy g.blocks y M ∧ Rch g.blocks y (if io2 = true then 2 else 1) ∧ wr.heap[V6.heap.size]? = some (.cells (boolA Mt) 4 (0, 0)) ∧ Mt.length = N ∧ (∀ y' ∈ M, y' ≠ y → bitAt Mt y' = true) ∧ Below V6.heap.size V6 wr from
                      ⟨Mt.set x true, y :: M, by simpa using HWY.out.step HBT.out HYF.out, by simpa using HNR.out _ HYM.out, HM9.out, by simpa using HMl.out, fun y' hy' hne => by
                        rcases List.mem_cons.1 hy' with q | q
                        · exact absurd q hne
                        · exact HALL.out y' q, HU9.out⟩)
                    go_wp2_with fail
                    have hN0 : ((N : Int) == 0) = false := beq_eq_false_iff_ne.2 (by omega)
                    simp only [hN0]
                    go_roundw
                    case rel => exact ⟨y, i + 1, io2, rfl, rfl, by go_num, by omega, HQ⟩
                    case measure => simp [intOf]; omega
end Go.Proofs.Ytgkjhnghibpeoaa
