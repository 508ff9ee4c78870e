/- What is live at a spot, listed. -/
import Derived.Test.YtgkjhnghibpeoaaDoorRows
import Derived.Test.YtgkjhnghibpeoaaDoorLvAt
import Derived.Test.YtgkjhnghibpeoaaDoorLvList
import Derived.Test.YtgkjhnghibpeoaaDoorIrLeaf
import Derived.Test.YtgkjhnghibpeoaaDoorIrNew
import Derived.Test.YtgkjhnghibpeoaaDoorParseOrder
import Derived.LoopTactic
import Derived.LoopN
import Derived.Deep.LoopGhost
import Derived.WalkKit
import Derived.WalkSpells
import Derived.WalkLawsBesides
import Derived.Lib.Hide
import Derived.OrdersHeld
import Derived.Deep.RegionHeld
import Derived.Deep.DrawnRows
import Derived.RegionTactic
import Derived.Deep.RegionHeld3
import Derived.IntWalk
import Derived.Deep.QuietTactic
import Derived.BigQuiet
namespace Go.Proofs.YtgkjhnghibpeoaaDoor
open Go.RowKit
set_option maxRecDepth 1000000
attribute [local go_sem ↓] bld_eq bls_eq


theorem LivP.uniq {bl : List Bk} {S S' : List (List Nat)} (h : LivP bl S) (k : LivP bl S') : S = S' := by
  refine List.ext_getElem? fun n => ?_
  by_cases hn : n < S.length
  · have hn' : n < S'.length := by rw [k.len, ← h.len]; exact hn
    rw [get_atS hn, get_atS hn']
    congr 1
    refine has_ext (h.ok.at n) (k.ok.at n) fun r => ?_
    rw [Bool.eq_iff_iff, h.live, k.live]
  · have hn' : ¬ n < S'.length := by rw [k.len, ← h.len]; exact hn
    rw [List.getElem?_eq_none (by omega), List.getElem?_eq_none (by omega)]
def natsI (l : List Nat) : List Int := l.map fun (n : Nat) => (n : Int)
/-- What At answers. -/
def AtE (g : Gr) (sb si : Int) (w : World) (e : Ending) (w' : World) : Prop :=
  Below w.heap.size w w' ∧ ((mayB g = false ∧ e = .returned (.tuple #[.slice none 0 0, .int .i64 14])) ∨ (mayB g = true ∧ isSpotB g sb si = false ∧ e = .returned (.tuple #[.slice none 0 0, .int .i64 1])) ∨
    (mayB g = true ∧ isSpotB g sb si = true ∧ ∃ (n k : Nat) (bk : Bk) (S : List (List Nat)) (v : Value), sb = (n : Int) ∧ si = (k : Int) ∧ g.blocks[n]? = some bk ∧ k ≤ bk.ins.length ∧ LivP g.blocks S ∧ SOk (atSet bk k S) ∧ e = .returned (.tuple #[v, .int .i64 0]) ∧ RowAt w' w.heap.size v (natsI (listS (atSet bk k S)))))
theorem atSet_ok {bl : List Bk} {S : List (List Nat)} (h : LivP bl S) (bk : Bk) (k : Nat) : SOk (atSet bk k S) := ahead_ok (deedF_ok bk k) (beh_ok h.ok _)
theorem spot_of {g : Gr} {sb si : Int} (h : isSpotB g sb si = true) : ∃ (n k : Nat) (bk : Bk), sb = (n : Int) ∧ si = (k : Int) ∧ g.blocks[n]? = some bk ∧ k ≤ bk.ins.length := by
  unfold isSpotB at h
  simp only [Bool.and_eq_true, decide_eq_true_eq] at h
  obtain ⟨h1, h2, h3, h4⟩ := h
  obtain ⟨bk, hb⟩ : ∃ bk, g.blocks[sb.toNat]? = some bk := ⟨_, List.getElem?_eq_getElem (by omega)⟩
  refine ⟨sb.toNat, si.toNat, bk, by omega, by omega, hb, ?_⟩
  unfold insAt at h4
  rw [hb] at h4
  simp at h4
  omega
set_option maxHeartbeats 16000000 in
theorem at_any (B : Nat) (g : Gr) (sb si : Int) (w : World) (hc : ∀ bk ∈ g.blocks, CapB bk) (hG : Good w) (hI : GIn w B g) (hBw : B ≤ w.heap.size) :
    Calls Tryd.prog 9 #[.agg #[g.rv, .int .i64 g.sites, g.bv], .agg #[.int .i64 sb, .int .i64 si]] w (AtE g sb si w) := by
  have hg0 := box_graph
  obtain ⟨U, hU⟩ : ∃ U, U = (w.alloc (.cells #[g.rv, .int .i64 g.sites, g.bv] 25)).alloc (.cells #[.int .i64 sb, .int .i64 si] 41) := ⟨_, rfl⟩
  have z0 : (w.alloc (.cells #[g.rv, .int .i64 g.sites, g.bv] 25)).heap.size = w.heap.size + 1 := by simp
  have hz : U.heap.size = w.heap.size + 2 := by rw [hU]; simp
  have hb : Below w.heap.size w U := by rw [hU]; exact (below_box w _).alloc (by omega) _
  have q0 : U.heap[w.heap.size]? = some (.cells #[g.rv, .int .i64 g.sites, g.bv] 25 (0, 0)) := by rw [hU]; exact (Below.heap_alloc _ _ _ (by omega)).trans (MapKept.heap_alloc w _).1
  have q1 : U.heap[w.heap.size + 1]? = some (.cells #[.int .i64 sb, .int .i64 si] 41 (0, 0)) := by
    have := (MapKept.heap_alloc (w.alloc (.cells #[g.rv, .int .i64 g.sites, g.bv] 25)) (.cells #[.int .i64 sb, .int .i64 si] 41)).1
    rw [z0] at this; rw [hU]; exact this
  obtain ⟨c0, c1, c2⟩ := own3 q0
  have HCK := Lib.hid (fun (W : World) (hW : Below w.heap.size w W) => vcheck_any B g W (hI.keeps (hW.mono hBw)) (by have := hW.size; omega))
  have HSP := Lib.hid (fun (W : World) (hW : Below w.heap.size w W) => isspot_any B g sb si W (hI.keeps (hW.mono hBw)) (by have := hW.size; omega))
  have HU := Lib.hid hU
  have HB := Lib.hid hb
  have HQ0 := Lib.hid q0
  have HQ1 := Lib.hid q1
  have HI := Lib.hid hI
  clear hU hb q0 q1 hI hg0 z0
  have HG := Lib.hid hG
  have HC := Lib.hid hc
  clear hG hc
  cases hm : mayB g with
  | false =>
    have hif : (if mayB g = true then (0 : Int) else 14) = 14 := by rw [hm]; rfl
    rw [hif] at HCK
    clear hif
    go_enter Tryd.func9, Tryd.ntmps9
    go_wp2_with (rw [← HU.out])
    refine (HCK.out _ HB.out).mono ?_; rintro e V1 ⟨rfl, hb1⟩
    have HB1 := Lib.hid (HB.out.trans (hb1.mono HB.out.size))
    clear hb1 c0 c1 c2
    go_wp2_with fail
    go_ret2
    exact ⟨HB1.out, .inl ⟨hm, rfl⟩⟩
  | true =>
    have hif : (if mayB g = true then (0 : Int) else 14) = 0 := by rw [hm]; rfl
    rw [hif] at HCK
    have HGL := Lib.hid (glv_of HI.out hm HC.out)
    clear hif
    go_enter Tryd.func9, Tryd.ntmps9
    go_wp2_with (rw [← HU.out])
    refine (HCK.out _ HB.out).mono ?_; rintro e V1 ⟨rfl, hb1⟩
    have HB1 := Lib.hid (HB.out.trans (hb1.mono HB.out.size))
    have hv1 := hb1.size
    obtain ⟨c0, c1, c2⟩ := own3 ((hb1.block w.heap.size (by omega)).trans HQ0.out)
    have s1 := (hb1.block (w.heap.size + 1) (by omega)).trans HQ1.out
    have s0 : V1.cell? ⟨w.heap.size + 1, 0, none⟩ = some (.int .i64 sb) := by rw [Lib.cell_of_heap s1]; rfl
    have s2 : V1.cell? ⟨w.heap.size + 1, 1, none⟩ = some (.int .i64 si) := by rw [Lib.cell_of_heap s1]; rfl
    have HS1 := Lib.hid s1
    have HC1 := Lib.hid ((hb1.block w.heap.size (by omega)).trans HQ0.out)
    clear hb1 s1
    go_wp2_with fail
    refine (HSP.out _ HB1.out).mono ?_; rintro e V2 ⟨rfl, hb2⟩
    have HB2 := Lib.hid (HB1.out.trans (hb2.mono HB1.out.size))
    have hv2 := hb2.size
    have q0 := (hb2.block w.heap.size (by omega)).trans HC1.out
    have q1 := (hb2.block (w.heap.size + 1) (by omega)).trans HS1.out
    clear hb2 c0 c1 c2 s0 s2
    cases hs : isSpotB g sb si with
    | false =>
      clear q0 q1
      go_wp2_with fail
      go_ret2
      exact ⟨HB2.out, .inr (.inl ⟨hm, hs, rfl⟩)⟩
    | true =>
      obtain ⟨n, k, bk, hsb, hsi, hbk, hk⟩ := spot_of hs
      subst hsb hsi
      obtain ⟨c0, c1, c2⟩ := own3 q0
      have s0 : V2.cell? ⟨w.heap.size + 1, 0, none⟩ = some (.int .i64 (n : Int)) := by rw [Lib.cell_of_heap q1]; rfl
      have s2 : V2.cell? ⟨w.heap.size + 1, 1, none⟩ = some (.int .i64 (k : Int)) := by rw [Lib.cell_of_heap q1]; rfl
      have HLA := Lib.hid (liveat_any g.refs.length B g n k bk V2 HGL.out (HI.out.keeps (HB2.out.mono hBw)) (by omega) hbk hk)
      have HBK := Lib.hid hbk
      have HS := Lib.hid hs
      clear q0 q1 hbk hs
      go_wp2_with fail
      refine HLA.out.mono ?_; rintro e V3 ⟨S, hS, rfl, hb3⟩
      have HB3 := Lib.hid (HB2.out.trans (hb3.mono HB2.out.size))
      have hv3 := hb3.size
      have HSL := Lib.hid hS
      have hok := atSet_ok hS bk k
      have HOK := Lib.hid hok
      have HGV := Lib.hid (HG.out.of (HB3.out.block _ HG.out.lt))
      have HLS := Lib.hid (list_any (atSet bk k S) hok V3 HGV.out)
      clear hb3 hS hok c0 c1 c2 s0 s2
      go_wp2_with fail
      refine HLS.out.mono ?_; rintro e V4 ⟨v, rfl, hrow, hb4⟩
      have HB4 := Lib.hid (HB3.out.trans (hb4.mono HB3.out.size))
      have HROW := Lib.hid (hrow.down (lo' := w.heap.size) (by omega))
      clear hrow hb4
      go_wp2_with fail
      go_ret2
      exact ⟨HB4.out, .inr (.inr ⟨hm, HS.out, n, k, bk, S, v, rfl, rfl, HBK.out, hk, HSL.out, HOK.out, rfl, HROW.out⟩)⟩
end Go.Proofs.YtgkjhnghibpeoaaDoor
namespace Go.Proofs.YtgkjhnghibpeoaaDoor
open Go.RowKit
set_option maxRecDepth 1000000
attribute [local go_sem ↓] bld_eq bls_eq


theorem wpList_load_set {ops : Array Oper} {rest : List Oper} {op : Oper} {a : Act} {w : World} {Q : Exit → Act → World → Prop} (hgd : op.guard = none) (x : Operand) (ho : op.op = .load 58 x) (b o : Nat) (L s : List Nat) (T : TypeId) (fr : Nat × Nat)
    (hx : a.eval x = .pointer (some ⟨b, o, none⟩)) (hb : w.heap[b]? = some (.cells (u64A L) T fr)) (hs : (L.drop o).take 16 = s) (hl : s.length = 16) (h : wpList Tryd.prog ops Q rest (a.put op.dst (setV s)) w) : wpList Tryd.prog ops Q (op :: rest) a w := by
  have h1 := range_of hb o 16
  rw [hs] at h1
  refine wpList_load_mid hgd 58 x ho b o hx _ _ h1 Tryd.underlying58 rfl (by rw [Array.length_toList, u64A_size, hl]; kernel_rfl) ?_
  exact h
/-- What In answers. -/
def InnE (g : Gr) (w : World) (e : Ending) (w' : World) : Prop :=
  Below w.heap.size w w' ∧ ((mayB g = false ∧ e = .returned (.tuple #[.slice none 0 0, .int .i64 14])) ∨
    (mayB g = true ∧ ∃ (gR : Nat) (vs : List Value) (S : List (List Nat)), e = .returned (.tuple #[.slice (some ⟨gR, 0, none⟩) g.blocks.length g.blocks.length, .int .i64 0]) ∧ w.heap.size ≤ gR ∧ gR < w'.heap.size ∧ w'.heap[gR]? = some (.cells vs.toArray 37 (0, 0)) ∧ vs.length = g.blocks.length ∧ LivP g.blocks S ∧ ∀ m, m < g.blocks.length → ∃ v, vs[m]? = some v ∧ RowAt w' (gR + 1) v (natsI (listS (atS S m)))))
set_option maxHeartbeats 16000000 in
theorem inn_any (B : Nat) (g : Gr) (w : World) (hc : ∀ bk ∈ g.blocks, CapB bk) (hG : Good w) (hI : GIn w B g) (hBw : B ≤ w.heap.size) :
    Calls Tryd.prog 7 #[.agg #[g.rv, .int .i64 g.sites, g.bv]] w (InnE g w) := by
  obtain ⟨bo, bcp, eb, hbl, hbg⟩ := hI.blies.form
  obtain ⟨N, hN⟩ : ∃ N, N = g.blocks.length := ⟨_, rfl⟩
  obtain ⟨c0, c1, c2⟩ := box_graph w g
  obtain ⟨U, hU⟩ : ∃ U, U = w.alloc (.cells #[g.rv, .int .i64 g.sites, g.bv] 25) := ⟨_, rfl⟩
  have q0 := (MapKept.heap_alloc w (.cells #[g.rv, .int .i64 g.sites, g.bv] 25)).1
  rw [← hU] at c0 c1 c2 q0
  have hb : Below w.heap.size w U := by rw [hU]; exact below_box w _
  have hz : U.heap.size = w.heap.size + 1 := by rw [hU]; simp
  have HCK := Lib.hid (fun (W : World) (hW : Below w.heap.size w W) => vcheck_any B g W (hI.keeps (hW.mono hBw)) (by have := hW.size; omega))
  have HU := Lib.hid hU
  have HB := Lib.hid hb
  have HQ0 := Lib.hid q0
  have HI := Lib.hid hI
  have HG := Lib.hid hG
  have HC := Lib.hid hc
  have HN := Lib.hid hN
  have HEB := Lib.hid eb
  rw [← hN] at hbl
  clear hG hc hU hb q0 hI hbg hN
  cases hm : mayB g with
  | false =>
    have hif : (if mayB g = true then (0 : Int) else 14) = 14 := by rw [hm]; rfl
    rw [hif] at HCK
    clear hif eb
    go_enter Tryd.func7, Tryd.ntmps7
    go_wp2_with (rw [← HU.out])
    refine (HCK.out _ HB.out).mono ?_; rintro e V1 ⟨rfl, hb1⟩
    have HB1 := Lib.hid (HB.out.trans (hb1.mono HB.out.size))
    clear hb1 c0 c1 c2
    go_wp2_with fail
    go_ret2
    exact ⟨HB1.out, .inl ⟨hm, rfl⟩⟩
  | true =>
    have hif : (if mayB g = true then (0 : Int) else 14) = 0 := by rw [hm]; rfl
    rw [hif] at HCK
    have HGL := Lib.hid (glv_of HI.out hm HC.out)
    have hN4 : N ≤ 4096 := by rw [HN.out]; exact HGL.out.fok.room
    have m3 := make_rows N (by omega)
    clear hif eb
    go_enter Tryd.func7, Tryd.ntmps7
    go_wp2_with (rw [← HU.out])
    refine (HCK.out _ HB.out).mono ?_; rintro e V1 ⟨rfl, hb1⟩
    have HB1 := Lib.hid (HB.out.trans (hb1.mono HB.out.size))
    have hv1 := hb1.size
    have hq1 := (hb1.block w.heap.size (by omega)).trans HQ0.out
    obtain ⟨V2, hV2⟩ : ∃ x, x = V1.alloc (.cells (Array.replicate N (.slice none 0 0)) 37) := ⟨_, rfl⟩
    obtain ⟨gR, hgR⟩ : ∃ x, x = V1.heap.size := ⟨_, rfl⟩
    have hb2 : Below V1.heap.size V1 V2 := by rw [hV2]; exact below_box V1 _
    have hz2 : V2.heap.size = gR + 1 := by rw [hV2, hgR]; simp
    have hqR : V2.heap[gR]? = some (.cells (List.replicate N (.slice none 0 0)).toArray 37 (0, 0)) := by rw [hV2, hgR]; have := (MapKept.heap_alloc V1 (.cells (Array.replicate N (.slice none 0 0)) 37)).1; rw [this]; simp
    obtain ⟨c0, c1, c2⟩ := own3 hq1
    obtain ⟨d0, d1, d2⟩ := own3 ((hb2.block w.heap.size (by omega)).trans hq1)
    rw [HEB.out, ← HN.out] at c2
    have HV2 := Lib.hid hV2
    have HGR := Lib.hid hgR
    have HB2 := Lib.hid (HB1.out.trans (hb2.mono HB1.out.size))
    have HQR := Lib.hid hqR
    have hgR1 : gR ≤ V1.heap.size := by omega
    have hgR2 : V1.heap.size ≤ gR := by omega
    clear hb1 hq1 hb2 hqR hgR hV2
    have hgR0 : w.heap.size < gR := by omega
    have HBEG := Lib.hid (begs_any g.refs.length B g V2 HGL.out (HI.out.keeps (HB2.out.mono hBw)) (by omega))
    go_wp2_with (rw [← HV2.out])
    rw [← HGR.out]
    refine HBEG.out.mono ?_; rintro e V3 ⟨S, rfl, hs3, hl3, hb3⟩
    obtain ⟨gS, hgS⟩ : ∃ x, x = V2.heap.size + 1 := ⟨_, rfl⟩
    rw [← hgS] at hs3
    rw [← hgS, ← HN.out]
    have hz3 := hb3.size
    have hgS1 : gS < V3.heap.size := (Array.getElem?_eq_some_iff.1 hs3).1
    have hgS2 : gR < gS := by omega
    have HS3 := Lib.hid hs3
    have HL3 := Lib.hid hl3
    have HB3 := Lib.hid (HB2.out.trans (hb3.mono HB2.out.size))
    have HQ3 := Lib.hid ((hb3.block gR (by omega)).trans HQR.out)
    clear hs3 hl3 hb3 hgS c0 c1 c2 d0 d1 d2 m3
    go_wp2_with fail
    go_loopw [20] (fun q wr => ∃ j : Nat, j ≤ N ∧ q = .int .i64 (j : Int) ∧ Hid (∃ vs : List Value, vs.length = N ∧ wr.heap[gR]? = some (.cells vs.toArray 37 (0, 0)) ∧ (∀ m, m < j → ∃ v, vs[m]? = some v ∧ RowAt wr (gR + 1) v (natsI (listS (atS S m)))) ∧ Wr (fun x => x = gR) V3 wr)) (fun q _ => N - (intOf q).toNat)
    case atStart => exact ⟨0, Nat.zero_le _, rfl, Lib.hid ⟨_, by rw [List.length_replicate], HQ3.out, fun m h => by omega, Wr.refl _ _⟩⟩
    case round => as_aux_lemma =>
      obtain ⟨j, hj, rfl, HJ⟩ := hrel
      rename World => Z
      obtain ⟨vs, j1, j2, j3, j4⟩ := HJ.out
      have hzZ := j4.size
      have hbw : Below w.heap.size w Z := ⟨j4.os.trans HB3.out.os, j4.tape.trans HB3.out.tape, j4.output.trans HB3.out.output, by have := HB3.out.size; omega, fun x hx => (j4.block x (by omega) (by omega)).trans (HB3.out.block x hx)⟩
      by_cases hjc : j = N
      · have HF := Lib.hid (And.intro j1 (And.intro j2 (And.intro j3 hbw)))
        have hgz : gR < Z.heap.size := by omega
        subst hjc
        clear j1 j2 j3 j4 hbw HJ
        go_wp2_with fail
        go_ret2
        exact ⟨HF.out.2.2.2, .inr ⟨hm, gR, vs, S, by rw [← HN.out]; rfl, by omega, hgz, HF.out.2.1, by rw [← HN.out]; exact HF.out.1, HL3.out, by rw [← HN.out]; exact HF.out.2.2.1⟩⟩
      · have hjl : j < N := by omega
        have hjl0 : (j : Int) < (N : Int) := by omega
        have hjS : j < S.length := by rw [HL3.out.len, ← HN.out]; exact hjl
        have hSA : ((flatS S).drop (j * 16)).take 16 = atS S j := flat_at (all16S HL3.out.ok) (get_atS hjS)
        have hok := HL3.out.ok.at j
        have HSZ := Lib.hid ((j4.block gS (by omega) (by omega)).trans HS3.out)
        obtain ⟨Z2, hZ2⟩ : ∃ x, x = Z.alloc (.cells (u64A (atS S j)) 58) := ⟨_, rfl⟩
        obtain ⟨gX, hgX⟩ : ∃ x, x = Z.heap.size := ⟨_, rfl⟩
        have HOK := Lib.hid hok
        have HSA := Lib.hid hSA
        have HZQ := Lib.hid (MapKept.heap_alloc Z (.cells #[.int .u64 0, .int .u64 0, .int .u64 0, .int .u64 0, .int .u64 0, .int .u64 0, .int .u64 0, .int .u64 0, .int .u64 0, .int .u64 0, .int .u64 0, .int .u64 0, .int .u64 0, .int .u64 0, .int .u64 0, .int .u64 0] 58)).1
        have HJ1 := Lib.hid j1
        have HJ2 := Lib.hid j2
        have HJ3 := Lib.hid j3
        have HJ4 := Lib.hid j4
        have HBW := Lib.hid hbw
        clear j1 j2 j3 j4 hSA hok HJ hjS hbw hZ2 hgX
        go_wp2_with (first
          | (refine wpList_load_set rfl (Operand.tmp 23) rfl gS (j * 16) (flatS S) (atS S j) 58 (0, 0) rfl HSZ.out HSA.out HOK.out.len ?_)
          | (refine wpList_put rfl 58 (Operand.tmp 7) (Operand.tmp 24) rfl Z.heap.size 58 _ (u64A (atS S j)) rfl rfl HZQ.out (by rw [u64A_size, HOK.out.len]; rfl) (by rw [u64A_size, HOK.out.len]; kernel_rfl) (u64A_one _) ?_))
        intro Z2 hp2
        have hbz : Below Z.heap.size Z Z2 := hp2.below (below_box Z _) (Nat.le_refl _)
        have hzz := hbz.size
        have HZX := Lib.hid hp2.at_b
        have HBZ := Lib.hid hbz
        have HW2 := Lib.hid (HBW.out.trans (hbz.mono HBW.out.size))
        have HGV := Lib.hid (HG.out.of (HW2.out.block _ HG.out.lt))
        have HLS := Lib.hid (list_any (atS S j) HOK.out Z2 HGV.out)
        obtain ⟨SV2, hSV2⟩ : ∃ x, x = Z.heap.size := ⟨_, rfl⟩
        clear hp2 hbz hSV2
        go_wp2_with (refine wpList_load_row rfl 58 (Operand.tmp 7) rfl Z.heap.size rfl 58 (u64A (atS S j)) (0, 0) _ HZX.out Tryd.underlying58 rfl (by rw [u64A_size, HOK.out.len]; kernel_rfl) ?_)
        refine HLS.out.mono ?_; rintro e Z3 ⟨v, rfl, hrow, hb3⟩
        obtain ⟨ao, cap, rfl⟩ := hrow.form
        have hz33 := hb3.size
        have hZ3 : Below Z.heap.size Z Z3 := HBZ.out.trans (hb3.mono (by omega))
        have hgRZ : gR < Z.heap.size := by omega
        have hq4 := (hZ3.block gR hgRZ).trans HJ2.out
        obtain ⟨v0, hv0⟩ : ∃ v0, vs[j]? = some v0 := ⟨_, List.getElem?_eq_getElem (by rw [HJ1.out]; exact hjl)⟩
        have cR : Z3.cell? ⟨gR, j, none⟩ = some v0 := by rw [Lib.cell_of_heap hq4]; simpa using hv0
        have fR := Lib.frozen_of_heap hq4 j
        have hgR3 : gR < Z3.heap.size := by omega
        obtain ⟨LN, hLN⟩ : ∃ x, x = (List.map (fun (n : Nat) => (n : Int)) (listS (atS S j))).length := ⟨_, rfl⟩
        have HLN := Lib.hid hLN
        have HROW := Lib.hid hrow
        have HZ3 := Lib.hid hZ3
        have HQ4 := Lib.hid hq4
        have HLT := Lib.hid hjl
        rw [← hLN] at HROW ⊢
        clear hrow hb3 hZ3 hq4 hv0 hLN
        go_wp2_with fail
        go_roundw
        case rel =>
          refine ⟨j + 1, by omega, by go_num, Lib.hid ⟨vs.set j (.slice ao LN cap), by rw [List.length_set]; exact HJ1.out, ?_, fun m hm => ?_, ?_⟩⟩
          · have h := heap_setCell_same Z3 gR j _ _ (.slice ao LN cap) HQ4.out
            rw [h, List.setIfInBounds_toArray]
          · have hw9 : Wr (fun x => x = gR) Z3 (Z3.setCell ⟨gR, j, none⟩ (.slice ao LN cap)) := Wr.set (S := fun x => x = gR) Z3 rfl _
            by_cases e : m = j
            · subst e
              refine ⟨_, by rw [List.getElem?_set, if_pos rfl, if_pos (by rw [HJ1.out]; exact HLT.out)], ?_⟩
              exact (HROW.out.down (lo' := gR + 1) (by omega)).keeps hw9 (fun b hb => by omega)
            · obtain ⟨v', h1, h2⟩ := HJ3.out m (by omega)
              refine ⟨v', by rw [List.getElem?_set, if_neg (fun q => e q.symm)]; exact h1, ?_⟩
              exact ((h2.keeps (Wr.of (S := fun _ => False) HZ3.out) (fun _ q => q.elim))).keeps hw9 (fun b hb => by omega)
          · exact HJ4.out.trans ((Wr.of HZ3.out).trans (Wr.set (S := fun x => x = gR) Z3 rfl _))
        case measure => simp [intOf]; omega
end Go.Proofs.YtgkjhnghibpeoaaDoor
